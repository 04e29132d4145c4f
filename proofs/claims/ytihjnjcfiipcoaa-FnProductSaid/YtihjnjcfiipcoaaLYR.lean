
import Derived.Test.YtihjnjcfiipcoaaMK
import Derived.Test.YtihjnjcfiipcoaaML
import Derived.Test.YtihjnjcfiipcoaaMH
/- The walk of the law FnProduct. -/
namespace Go.Proofs.Ytihjnjcfiipcoaa
open Go.RowKit
set_option maxRecDepth 100000

set_option maxHeartbeats 16000000 in
theorem fnProduct_walk (A : Option Addr) (n c : Nat) (w : World) (hb : Byts w w.heap.size A n) (hc : n ≤ c) (hc2 : c ≤ 9223372036854775807) :
    Calls Try.prog 5 #[.slice A n c] w fun e w' => e = .returned (.bool true) ∧ Below w.heap.size w w' := by
  by_cases hbig : n > 1048576
  · have t0 : decide ((n : Int) > 1048576) = true := by simp; omega
    go_enter Try.func5, Try.ntmps5
    go_wp2_with (fail)
    go_ret
    exact ⟨rfl, Below.refl _ _⟩
  have hn : n ≤ 1048576 := by omega
  have t0 : decide ((n : Int) > 1048576) = false := by simp; omega
  go_enter Try.func5, Try.ntmps5
  go_wp2_with (fail)
  refine (drawProductRing_any A n c w hb hn hc hc2).mono ?_
  rintro e w_0 ⟨v, v', rfl, hA, hB, hb_0⟩
  obtain ⟨n1, o1, A1, C1, q1, ca1, cb1, X1, Y1, rfl, hI, _, _⟩ := hA.rin
  obtain ⟨n2, o2, A2, C2, q2, ca2, cb2, X2, Y2, rfl, hJ, _, _⟩ := hB.rin
  clear hA hB
  have B0 := Lib.hid (hb_0)
  clear hb_0
  obtain ⟨w_1, hV⟩ : ∃ V, (World.alloc w_0 (.cells #[.int .i64 n1, .int .i64 o1, .slice A1 q1 ca1, .slice C1 q1 cb1] 25)).alloc (.cells #[.int .i64 n2, .int .i64 o2, .slice A2 q2 ca2, .slice C2 q2 cb2] 25) = V := ⟨_, rfl⟩
  have hb_1 : Below (World.heap w_0).size w_0 w_1 := by subst hV; exact ((Below.refl _ _).alloc (Nat.le_refl _) _).alloc (by simp) _
  have kX : Blk w_1 (World.heap w_0).size 25 #[.int .i64 n1, .int .i64 o1, .slice A1 q1 ca1, .slice C1 q1 cb1] := by subst hV; exact (Blk.new w_0 _ _).alloc _
  have kZ : Blk w_1 ((World.heap w_0).size + 1) 25 #[.int .i64 n2, .int .i64 o2, .slice A2 q2 ca2, .slice C2 q2 cb2] := by
    subst hV
    have := Blk.new (World.alloc w_0 (.cells #[.int .i64 n1, .int .i64 o1, .slice A1 q1 ca1, .slice C1 q1 cb1] 25)) 25 #[.int .i64 n2, .int .i64 o2, .slice A2 q2 ca2, .slice C2 q2 cb2]
    rw [World.size_alloc] at this
    exact this
  obtain ⟨bS, hbz⟩ : ∃ b, b = (World.heap w_0).size + 1 := ⟨_, rfl⟩
  obtain ⟨bR, hbx⟩ : ∃ b, b = (World.heap w_0).size := ⟨_, rfl⟩
  rw [← hbz] at kZ
  rw [← hbx] at kX
  have KR1 := Lib.hid kX
  have KS1 := Lib.hid kZ
  clear kX kZ
  have B1 := Lib.hid (B0.out.trans (hb_1.mono B0.out.size))
  have IR1 := Lib.hid (hI.next hb_1)
  have IS1 := Lib.hid (hJ.next hb_1)
  clear hb_1 hI hJ
  go_upto_region 4 with (fail)
  rw [← hbz, ← hbx]
  clear hV hbx hbz
  have cR0 := KR1.out.cell 0
  have cR1 := KR1.out.cell 1
  have cR2 := KR1.out.cell 2
  have cR3 := KR1.out.cell 3
  have cS0 := KS1.out.cell 0
  have cS1 := KS1.out.cell 1
  have cS2 := KS1.out.cell 2
  have cS3 := KS1.out.cell 3
  simp at cR0 cR1 cR2 cR3 cS0 cS1 cS2 cS3
  go_wp2_with (fail)
  refine (productB_any n1 o1 A1 C1 q1 ca1 q1 cb1 X1 Y1 n2 o2 A2 C2 q2 ca2 q2 cb2 X2 Y2 _ IR1.out.hX IR1.out.hY IR1.out.hla IR1.out.hlb IR1.out.hca IR1.out.hcb IS1.out.hX IS1.out.hY IS1.out.hla IS1.out.hlb IS1.out.hca IS1.out.hcb).mono ?_
  rintro e w_2 ⟨v, rfl, hv, hb_2⟩
  obtain ⟨A3, C3, q3, l3, ca3, cb3, rfl, hI⟩ := RingOutB.rin hv
  clear hv
  clear cR0 cR1 cR2 cR3 cS0 cS1 cS2 cS3
  have B2 := Lib.hid (B1.out.trans (hb_2.mono B1.out.size))
  have KR2 := Lib.hid (KR1.out.next hb_2)
  have KS2 := Lib.hid (KS1.out.next hb_2)
  have IR2 := Lib.hid (IR1.out.next hb_2)
  have IS2 := Lib.hid (IS1.out.next hb_2)
  clear hb_2
  obtain ⟨w_3, hV⟩ : ∃ V, World.alloc w_2 (.cells #[.int .i64 (prN n1 o1 X1 Y1 n2 o2 X2 Y2), .int .i64 (prO n1 o1 X1 Y1 n2 o2 X2 Y2), .slice A3 q3 l3, .slice C3 ca3 cb3] 25) = V := ⟨_, rfl⟩
  have hb_3 : Below (World.heap w_2).size w_2 w_3 := by subst hV; exact (Below.refl _ _).alloc (Nat.le_refl _) _
  obtain ⟨bP, hbx⟩ : ∃ b, b = (World.heap w_2).size := ⟨_, rfl⟩
  have KP3 := Lib.hid (show Blk w_3 bP 25 #[.int .i64 (prN n1 o1 X1 Y1 n2 o2 X2 Y2), .int .i64 (prO n1 o1 X1 Y1 n2 o2 X2 Y2), .slice A3 q3 l3, .slice C3 ca3 cb3] by subst hV hbx; exact Blk.new w_2 _ _)
  have B3 := Lib.hid (B2.out.trans (hb_3.mono B2.out.size))
  have KR3 := Lib.hid (KR2.out.next hb_3)
  have KS3 := Lib.hid (KS2.out.next hb_3)
  have IR3 := Lib.hid (IR2.out.next hb_3)
  have IS3 := Lib.hid (IS2.out.next hb_3)
  have IP3 := Lib.hid (hI.next hb_3)
  clear hb_3 hI
  go_upto_region 5 with (fail)
  rw [← hbx]
  clear hV hbx
  have cR0 := KR3.out.cell 0
  have cR1 := KR3.out.cell 1
  have cR2 := KR3.out.cell 2
  have cR3 := KR3.out.cell 3
  have cS0 := KS3.out.cell 0
  have cS1 := KS3.out.cell 1
  have cS2 := KS3.out.cell 2
  have cS3 := KS3.out.cell 3
  simp at cR0 cR1 cR2 cR3 cS0 cS1 cS2 cS3
  go_wp2_with (fail)
  refine (sproductB_any n1 o1 A1 C1 q1 ca1 q1 cb1 X1 Y1 n2 o2 A2 C2 q2 ca2 q2 cb2 X2 Y2 _ IR3.out.hX IR3.out.hY IR3.out.hla IR3.out.hlb IR3.out.hca IR3.out.hcb IS3.out.hX IS3.out.hY IS3.out.hla IS3.out.hlb IS3.out.hca IS3.out.hcb).mono ?_
  rintro e w_4 ⟨v, rfl, hv, hb_4⟩
  obtain ⟨A4, C4, q4, l4, ca4, cb4, rfl, hI⟩ := RingOutB.rin hv
  clear hv
  clear cR0 cR1 cR2 cR3 cS0 cS1 cS2 cS3
  have B4 := Lib.hid (B3.out.trans (hb_4.mono B3.out.size))
  have KR4 := Lib.hid (KR3.out.next hb_4)
  have KS4 := Lib.hid (KS3.out.next hb_4)
  have IR4 := Lib.hid (IR3.out.next hb_4)
  have IS4 := Lib.hid (IS3.out.next hb_4)
  have KP4 := Lib.hid (KP3.out.next hb_4)
  have IP4 := Lib.hid (IP3.out.next hb_4)
  clear hb_4
  obtain ⟨w_5, hV⟩ : ∃ V, World.alloc w_4 (.cells #[.int .i64 (prN n1 o1 X1 Y1 n2 o2 X2 Y2), .int .i64 (prO n1 o1 X1 Y1 n2 o2 X2 Y2), .slice A4 q4 l4, .slice C4 ca4 cb4] 25) = V := ⟨_, rfl⟩
  have hb_5 : Below (World.heap w_4).size w_4 w_5 := by subst hV; exact (Below.refl _ _).alloc (Nat.le_refl _) _
  obtain ⟨bW, hbx⟩ : ∃ b, b = (World.heap w_4).size := ⟨_, rfl⟩
  have KW5 := Lib.hid (show Blk w_5 bW 25 #[.int .i64 (prN n1 o1 X1 Y1 n2 o2 X2 Y2), .int .i64 (prO n1 o1 X1 Y1 n2 o2 X2 Y2), .slice A4 q4 l4, .slice C4 ca4 cb4] by subst hV hbx; exact Blk.new w_4 _ _)
  have B5 := Lib.hid (B4.out.trans (hb_5.mono B4.out.size))
  have KR5 := Lib.hid (KR4.out.next hb_5)
  have KS5 := Lib.hid (KS4.out.next hb_5)
  have IR5 := Lib.hid (IR4.out.next hb_5)
  have IS5 := Lib.hid (IS4.out.next hb_5)
  have KP5 := Lib.hid (KP4.out.next hb_5)
  have IP5 := Lib.hid (IP4.out.next hb_5)
  have IW5 := Lib.hid (hI.next hb_5)
  clear hb_5 hI
  go_upto_region 6 with (fail)
  rw [← hbx]
  clear hV hbx
  cases hok : prodB n1 o1 X1 Y1 n2 o2 X2 Y2
  · skip
    have cP0 := KP5.out.cell 0
    have cP1 := KP5.out.cell 1
    have cP2 := KP5.out.cell 2
    have cP3 := KP5.out.cell 3
    have cW0 := KW5.out.cell 0
    have cW1 := KW5.out.cell 1
    have cW2 := KW5.out.cell 2
    have cW3 := KW5.out.cell 3
    simp at cP0 cP1 cP2 cP3 cW0 cW1 cW2 cW3
    go_wp2_with (fail)
    refine (c_frRing IP5.out IW5.out true sameB_self).mono ?_
    rintro e w_6 ⟨rfl, hb_6⟩
    clear cP0 cP1 cP2 cP3 cW0 cW1 cW2 cW3
    have B6 := Lib.hid (B5.out.trans (hb_6.mono B5.out.size))
    have KR6 := Lib.hid (KR5.out.next hb_6)
    have KS6 := Lib.hid (KS5.out.next hb_6)
    have IR6 := Lib.hid (IR5.out.next hb_6)
    have IS6 := Lib.hid (IS5.out.next hb_6)
    have KP6 := Lib.hid (KP5.out.next hb_6)
    have IP6 := Lib.hid (IP5.out.next hb_6)
    have KW6 := Lib.hid (KW5.out.next hb_6)
    have IW6 := Lib.hid (IW5.out.next hb_6)
    clear hb_6
    have cP0 := KP6.out.cell 0
    have cP1 := KP6.out.cell 1
    have cP2 := KP6.out.cell 2
    have cP3 := KP6.out.cell 3
    have cW0 := KW6.out.cell 0
    have cW1 := KW6.out.cell 1
    have cW2 := KW6.out.cell 2
    have cW3 := KW6.out.cell 3
    simp at cP0 cP1 cP2 cP3 cW0 cW1 cW2 cW3
    go_wp2_with (fail)
    refine (c_frRing IP6.out IW6.out true sameB_self).mono ?_
    rintro e w_7 ⟨rfl, hb_7⟩
    clear cP0 cP1 cP2 cP3 cW0 cW1 cW2 cW3
    have B7 := Lib.hid (B6.out.trans (hb_7.mono B6.out.size))
    have KR7 := Lib.hid (KR6.out.next hb_7)
    have KS7 := Lib.hid (KS6.out.next hb_7)
    have IR7 := Lib.hid (IR6.out.next hb_7)
    have IS7 := Lib.hid (IS6.out.next hb_7)
    have KP7 := Lib.hid (KP6.out.next hb_7)
    have IP7 := Lib.hid (IP6.out.next hb_7)
    have KW7 := Lib.hid (KW6.out.next hb_7)
    have IW7 := Lib.hid (IW6.out.next hb_7)
    clear hb_7
    go_wp2_with (fail)
    go_ret
    exact ⟨rfl, B7.out⟩
  · obtain ⟨_, _, _, _, v1, v2, hmq⟩ := prod_bounds hok
    obtain ⟨m, e, b1, p1, b2, p2, rfl, rfl, rfl, rfl, hr, _, lX, lY, gX, gY⟩ := valid_data v1 IR5.out.hX IR5.out.hY IR5.out.hca IR5.out.hcb
    obtain ⟨q, f, b3, p3, b4, p4, rfl, rfl, rfl, rfl, hs, _, lX', lY', gX', gY'⟩ := valid_data v2 IS5.out.hX IS5.out.hY IS5.out.hca IS5.out.hcb
    have R := rtab_of_valid v1
    have Q := rtab_of_valid v2
    have hmq' : m * q ≤ 16 := by rw [← Int.natCast_mul] at hmq; omega
    obtain ⟨en, eo, eX, eY⟩ := prod_eqs hok
    have v3 := (prod_fring R Q).valid hmq'
    obtain ⟨c, hcc⟩ : ∃ k, ordN m (tabOf X1) e = k := ⟨_, rfl⟩
    obtain ⟨d, hcd⟩ : ∃ k, ordN q (tabOf X2) f = k := ⟨_, rfl⟩
    obtain ⟨g, hcg⟩ : ∃ k, ordN (m * q) (tabOf (tabZ (m * q) (prodF m q (tabOf X1) (tabOf X2)) (m * q * (m * q)))) (e * q + f) = k := ⟨_, rfl⟩
    have dv := prod_char R Q hmq' hcc hcd hcg
    have pt1 : ∀ a, a < m * q → partV m e X1 Y1 q f X2 Y2 a false = ((a / q : Nat) : Int) := fun a ha => by simpa using part_nat hok ha false
    have pt2 : ∀ a, a < m * q → partV m e X1 Y1 q f X2 Y2 a true = ((a % q : Nat) : Int) := fun a ha => by simpa using part_nat hok ha true
    have pr : ∀ a b, a < m → b < q → pairV m e X1 Y1 q f X2 Y2 a b = ((a * q + b : Nat) : Int) := fun a b ha hb => pair_nat hok ha hb
    have aX := fun k (hk : k < m * q * (m * q)) => tabZ_val (m := m * q) (f := prodF m q (tabOf X1) (tabOf X2)) hk
    have aY := fun k (hk : k < m * q * (m * q)) => tabZ_val (m := m * q) (f := prodF m q (tabOf Y1) (tabOf Y2)) hk
    have sp : ∀ a, a < m * q → a / q < m ∧ a % q < q := fun a ha => prod_parts Q.hm ha
    have lX3 : (tabZ (m * q) (prodF m q (tabOf X1) (tabOf X2)) (m * q * (m * q))).length = m * q * (m * q) := by simp [tabZ]
    have lY3 : (tabZ (m * q) (prodF m q (tabOf Y1) (tabOf Y2)) (m * q * (m * q))).length = m * q * (m * q) := by simp [tabZ]
    have hN1 : 1 ≤ m * q := Nat.mul_pos R.hm Q.hm
    obtain ⟨c1, c2, _, _⟩ := R.ord R.he
    rw [hcc] at c1 c2
    obtain ⟨d1, d2, _, _⟩ := Q.ord Q.he
    rw [hcd] at d1 d2
    obtain ⟨g1, _, _, _⟩ := (rtab_of_valid v3).ord (rtab_of_valid v3).he
    rw [hcg] at g1
    have hm16 := hr.hm'
    have hq16 := hs.hm'
    obtain ⟨X3, hX3⟩ : ∃ L, tabZ (m * q) (prodF m q (tabOf X1) (tabOf X2)) (m * q * (m * q)) = L := ⟨_, rfl⟩
    obtain ⟨Y3, hY3⟩ : ∃ L, tabZ (m * q) (prodF m q (tabOf Y1) (tabOf Y2)) (m * q * (m * q)) = L := ⟨_, rfl⟩
    obtain ⟨e3, he3⟩ : ∃ k, e * q + f = k := ⟨_, rfl⟩
    rw [hX3] at eX v3 hcg aX lX3
    rw [hY3] at eY v3 aY lY3
    rw [he3] at eo v3 hcg
    obtain ⟨N, hN⟩ : ∃ k, m * q = k := ⟨_, rfl⟩
    rw [hN] at en v3 hcg pt1 pt2 aX aY sp lX3 lY3 hN1 hmq'
    rw [en, eo] at KP5 KW5
    rw [eX, eY] at IP5 IW5
    have hq3 : q3 = N * N := IP5.out.hX.1.symm.trans lX3
    have hl3 : ca3 = N * N := IP5.out.hY.1.symm.trans lY3
    have V1 := Lib.hid v1
    have V2 := Lib.hid v2
    have V3 := Lib.hid v3
    have CC := Lib.hid hcc
    have CD := Lib.hid hcd
    have CG := Lib.hid hcg
    have DV := Lib.hid dv
    have PT1 := Lib.hid pt1
    have PT2 := Lib.hid pt2
    have PR := Lib.hid pr
    have AX := Lib.hid aX
    have AY := Lib.hid aY
    have SP := Lib.hid sp
    have HLA := Lib.hid hq3
    have HLB := Lib.hid hl3
    have RR := Lib.hid R
    have QQ := Lib.hid Q
    have BC := Lib.hid (show 1 ≤ c ∧ c ≤ m ∧ 1 ≤ d ∧ d ≤ q ∧ 1 ≤ g ∧ m ≤ 16 ∧ q ≤ 16 from ⟨c1, c2, d1, d2, g1, hm16, hq16⟩)
    clear v1 v2 v3 hcc hcd hcg dv pt1 pt2 pr aX aY sp hq3 hl3 R Q hr hs lX lY gX gY lX' lY' gX' gY' en eo eX eY hX3 hY3 he3 lX3 lY3 hN hok hmq c1 c2 d1 d2 g1 hm16 hq16
    obtain ⟨s1, s2, s3, s4⟩ := sqI hmq'
    have S3 := Lib.hid s3
    clear s3
    have cP0 := KP5.out.cell 0
    have cP1 := KP5.out.cell 1
    have cP2 := KP5.out.cell 2
    have cP3 := KP5.out.cell 3
    have cW0 := KW5.out.cell 0
    have cW1 := KW5.out.cell 1
    have cW2 := KW5.out.cell 2
    have cW3 := KW5.out.cell 3
    simp at cP0 cP1 cP2 cP3 cW0 cW1 cW2 cW3
    go_wp2_with (fail)
    refine (c_frRing IP5.out IW5.out true sameB_self).mono ?_
    rintro e w_6 ⟨rfl, hb_6⟩
    clear cP0 cP1 cP2 cP3 cW0 cW1 cW2 cW3
    have B6 := Lib.hid (B5.out.trans (hb_6.mono B5.out.size))
    have KR6 := Lib.hid (KR5.out.next hb_6)
    have KS6 := Lib.hid (KS5.out.next hb_6)
    have IR6 := Lib.hid (IR5.out.next hb_6)
    have IS6 := Lib.hid (IS5.out.next hb_6)
    have KP6 := Lib.hid (KP5.out.next hb_6)
    have IP6 := Lib.hid (IP5.out.next hb_6)
    have KW6 := Lib.hid (KW5.out.next hb_6)
    have IW6 := Lib.hid (IW5.out.next hb_6)
    clear hb_6
    have cP0 := KP6.out.cell 0
    have cP1 := KP6.out.cell 1
    have cP2 := KP6.out.cell 2
    have cP3 := KP6.out.cell 3
    simp at cP0 cP1 cP2 cP3
    go_wp2_with (fail)
    go_loopw [65] (fun iv wr => ∃ k : Nat, k ≤ N * N ∧ iv = .int .i64 k ∧ Below w_6.heap.size w_6 wr) (fun iv _ => N * N - (intOf iv).toNat)
    case atStart => exact ⟨0, Nat.zero_le _, rfl, Below.refl _ _⟩
    case round =>
      obtain ⟨k, hk, rfl, hbr⟩ := hrel
      have BK := Lib.hid hbr
      clear cP0 cP1 cP2 cP3
      have B40 := Lib.hid (B6.out.trans (hbr.mono B6.out.size))
      have KR40 := Lib.hid (KR6.out.next hbr)
      have KS40 := Lib.hid (KS6.out.next hbr)
      have IR40 := Lib.hid (IR6.out.next hbr)
      have IS40 := Lib.hid (IS6.out.next hbr)
      have KP40 := Lib.hid (KP6.out.next hbr)
      have IP40 := Lib.hid (IP6.out.next hbr)
      have KW40 := Lib.hid (KW6.out.next hbr)
      have IW40 := Lib.hid (IW6.out.next hbr)
      clear hbr
      obtain ⟨w_40, rfl⟩ : ∃ ws, ws = wr := ⟨_, rfl⟩
      by_cases hlt : k < N * N
      · have i1 : (k : Int) < (N : Int) * N := by rw [S3.out]; omega
        have n3 : ¬ N = 0 := by omega
        obtain ⟨p1', p2'⟩ := parts2 hlt
        have lka : k < q3 := by rw [HLA.out]; exact hlt
        have lkb : k < ca3 := by rw [HLB.out]; exact hlt
        have gx := AX.out k hlt
        have gy := AY.out k hlt
        obtain ⟨a, ea⟩ : ∃ a : Nat, k / N = a := ⟨_, rfl⟩
        obtain ⟨b, eb⟩ : ∃ b : Nat, k % N = b := ⟨_, rfl⟩
        have f1 : (k : Int) / N = (a : Int) := by rw [← ea]; simp
        have f2 : (k : Int) % N = (b : Int) := by rw [← eb]; simp
        rw [ea] at p1' gx gy
        rw [eb] at p2' gx gy
        have sa := SP.out a p1'
        have sb := SP.out b p2'
        have t1 := PT1.out a p1'
        have t2 := PT2.out a p1'
        have t3 := PT1.out b p2'
        have t4 := PT2.out b p2'
        unfold prodF at gx gy
        obtain ⟨xa, hxa⟩ : ∃ x : Nat, a / q = x := ⟨_, rfl⟩
        rw [hxa] at t1 sa gx gy
        obtain ⟨ya, hya⟩ : ∃ x : Nat, a % q = x := ⟨_, rfl⟩
        rw [hya] at t2 sa gx gy
        obtain ⟨xb, hxb⟩ : ∃ x : Nat, b / q = x := ⟨_, rfl⟩
        rw [hxb] at t3 sb gx gy
        obtain ⟨yb, hyb⟩ : ∃ x : Nat, b % q = x := ⟨_, rfl⟩
        rw [hyb] at t4 sb gx gy
        clear hxa hya hxb hyb ea eb
        have z1 := RR.out.sc sa.1 sb.1
        have z2 := QQ.out.sc sa.2 sb.2
        have z3 := RR.out.pc sa.1 sb.1
        have z4 := QQ.out.pc sa.2 sb.2
        obtain ⟨sx, hsx⟩ : ∃ x : Nat, tabOf X1 (xa * m + xb) = x := ⟨_, rfl⟩
        rw [hsx] at z1 gx
        obtain ⟨sy, hsy⟩ : ∃ x : Nat, tabOf X2 (ya * q + yb) = x := ⟨_, rfl⟩
        rw [hsy] at z2 gx
        obtain ⟨px, hpx⟩ : ∃ x : Nat, tabOf Y1 (xa * m + xb) = x := ⟨_, rfl⟩
        rw [hpx] at z3 gy
        obtain ⟨py, hpy⟩ : ∃ x : Nat, tabOf Y2 (ya * q + yb) = x := ⟨_, rfl⟩
        rw [hpy] at z4 gy
        have r1 := PR.out sx sy z1 z2
        have r2 := PR.out px py z3 z4
        obtain ⟨ps, hps⟩ : ∃ x : Nat, sx * q + sy = x := ⟨_, rfl⟩
        rw [hps] at gx r1
        obtain ⟨pp, hpp⟩ : ∃ x : Nat, px * q + py = x := ⟨_, rfl⟩
        rw [hpp] at gy r2
        have F1 := Lib.hid (show ∀ u, RIn u (some ⟨b1, p1, none⟩) q1 ca1 (some ⟨b2, p2, none⟩) q1 cb1 X1 Y1 → RIn u (some ⟨b3, p3, none⟩) q2 ca2 (some ⟨b4, p4, none⟩) q2 cb2 X2 Y2 → Calls Try.prog 31 #[.agg #[.int .i64 m, .int .i64 e, .slice (some ⟨b1, p1, none⟩) q1 ca1, .slice (some ⟨b2, p2, none⟩) q1 cb1], .agg #[.int .i64 q, .int .i64 f, .slice (some ⟨b3, p3, none⟩) q2 ca2, .slice (some ⟨b4, p4, none⟩) q2 cb2], .int .i64 a, .bool false] u fun e' w' => e' = .returned (.int .i64 xa) ∧ Below u.heap.size u w' from fun u h0 h1 => c_part h0 h1 a false t1)
        have F2 := Lib.hid (show ∀ u, RIn u (some ⟨b1, p1, none⟩) q1 ca1 (some ⟨b2, p2, none⟩) q1 cb1 X1 Y1 → RIn u (some ⟨b3, p3, none⟩) q2 ca2 (some ⟨b4, p4, none⟩) q2 cb2 X2 Y2 → Calls Try.prog 31 #[.agg #[.int .i64 m, .int .i64 e, .slice (some ⟨b1, p1, none⟩) q1 ca1, .slice (some ⟨b2, p2, none⟩) q1 cb1], .agg #[.int .i64 q, .int .i64 f, .slice (some ⟨b3, p3, none⟩) q2 ca2, .slice (some ⟨b4, p4, none⟩) q2 cb2], .int .i64 a, .bool true] u fun e' w' => e' = .returned (.int .i64 ya) ∧ Below u.heap.size u w' from fun u h0 h1 => c_part h0 h1 a true t2)
        have F3 := Lib.hid (show ∀ u, RIn u (some ⟨b1, p1, none⟩) q1 ca1 (some ⟨b2, p2, none⟩) q1 cb1 X1 Y1 → RIn u (some ⟨b3, p3, none⟩) q2 ca2 (some ⟨b4, p4, none⟩) q2 cb2 X2 Y2 → Calls Try.prog 31 #[.agg #[.int .i64 m, .int .i64 e, .slice (some ⟨b1, p1, none⟩) q1 ca1, .slice (some ⟨b2, p2, none⟩) q1 cb1], .agg #[.int .i64 q, .int .i64 f, .slice (some ⟨b3, p3, none⟩) q2 ca2, .slice (some ⟨b4, p4, none⟩) q2 cb2], .int .i64 b, .bool false] u fun e' w' => e' = .returned (.int .i64 xb) ∧ Below u.heap.size u w' from fun u h0 h1 => c_part h0 h1 b false t3)
        have F4 := Lib.hid (show ∀ u, RIn u (some ⟨b1, p1, none⟩) q1 ca1 (some ⟨b2, p2, none⟩) q1 cb1 X1 Y1 → RIn u (some ⟨b3, p3, none⟩) q2 ca2 (some ⟨b4, p4, none⟩) q2 cb2 X2 Y2 → Calls Try.prog 31 #[.agg #[.int .i64 m, .int .i64 e, .slice (some ⟨b1, p1, none⟩) q1 ca1, .slice (some ⟨b2, p2, none⟩) q1 cb1], .agg #[.int .i64 q, .int .i64 f, .slice (some ⟨b3, p3, none⟩) q2 ca2, .slice (some ⟨b4, p4, none⟩) q2 cb2], .int .i64 b, .bool true] u fun e' w' => e' = .returned (.int .i64 yb) ∧ Below u.heap.size u w' from fun u h0 h1 => c_part h0 h1 b true t4)
        have G1 := Lib.hid (show ∀ u, RIn u (some ⟨b1, p1, none⟩) q1 ca1 (some ⟨b2, p2, none⟩) q1 cb1 X1 Y1 → Calls Try.prog 33 #[.agg #[.int .i64 m, .int .i64 e, .slice (some ⟨b1, p1, none⟩) q1 ca1, .slice (some ⟨b2, p2, none⟩) q1 cb1], .int .i64 xa, .int .i64 xb] u fun e' w' => e' = .returned (.int .i64 sx) ∧ Below u.heap.size u w' from fun u h0 => c_frAdd h0 V1.out sa.1 sb.1 hsx rfl rfl rfl)
        have G2 := Lib.hid (show ∀ u, RIn u (some ⟨b3, p3, none⟩) q2 ca2 (some ⟨b4, p4, none⟩) q2 cb2 X2 Y2 → Calls Try.prog 33 #[.agg #[.int .i64 q, .int .i64 f, .slice (some ⟨b3, p3, none⟩) q2 ca2, .slice (some ⟨b4, p4, none⟩) q2 cb2], .int .i64 ya, .int .i64 yb] u fun e' w' => e' = .returned (.int .i64 sy) ∧ Below u.heap.size u w' from fun u h0 => c_frAdd h0 V2.out sa.2 sb.2 hsy rfl rfl rfl)
        have G3 := Lib.hid (show ∀ u, RIn u (some ⟨b1, p1, none⟩) q1 ca1 (some ⟨b2, p2, none⟩) q1 cb1 X1 Y1 → RIn u (some ⟨b3, p3, none⟩) q2 ca2 (some ⟨b4, p4, none⟩) q2 cb2 X2 Y2 → Calls Try.prog 32 #[.agg #[.int .i64 m, .int .i64 e, .slice (some ⟨b1, p1, none⟩) q1 ca1, .slice (some ⟨b2, p2, none⟩) q1 cb1], .agg #[.int .i64 q, .int .i64 f, .slice (some ⟨b3, p3, none⟩) q2 ca2, .slice (some ⟨b4, p4, none⟩) q2 cb2], .int .i64 sx, .int .i64 sy] u fun e' w' => e' = .returned (.int .i64 ps) ∧ Below u.heap.size u w' from fun u h0 h1 => c_pair h0 h1 sx sy r1)
        have G4 := Lib.hid (show ∀ u, RIn u (some ⟨b1, p1, none⟩) q1 ca1 (some ⟨b2, p2, none⟩) q1 cb1 X1 Y1 → Calls Try.prog 34 #[.agg #[.int .i64 m, .int .i64 e, .slice (some ⟨b1, p1, none⟩) q1 ca1, .slice (some ⟨b2, p2, none⟩) q1 cb1], .int .i64 xa, .int .i64 xb] u fun e' w' => e' = .returned (.int .i64 px) ∧ Below u.heap.size u w' from fun u h0 => c_frMul h0 V1.out sa.1 sb.1 hpx rfl rfl rfl)
        have G5 := Lib.hid (show ∀ u, RIn u (some ⟨b3, p3, none⟩) q2 ca2 (some ⟨b4, p4, none⟩) q2 cb2 X2 Y2 → Calls Try.prog 34 #[.agg #[.int .i64 q, .int .i64 f, .slice (some ⟨b3, p3, none⟩) q2 ca2, .slice (some ⟨b4, p4, none⟩) q2 cb2], .int .i64 ya, .int .i64 yb] u fun e' w' => e' = .returned (.int .i64 py) ∧ Below u.heap.size u w' from fun u h0 => c_frMul h0 V2.out sa.2 sb.2 hpy rfl rfl rfl)
        have G6 := Lib.hid (show ∀ u, RIn u (some ⟨b1, p1, none⟩) q1 ca1 (some ⟨b2, p2, none⟩) q1 cb1 X1 Y1 → RIn u (some ⟨b3, p3, none⟩) q2 ca2 (some ⟨b4, p4, none⟩) q2 cb2 X2 Y2 → Calls Try.prog 32 #[.agg #[.int .i64 m, .int .i64 e, .slice (some ⟨b1, p1, none⟩) q1 ca1, .slice (some ⟨b2, p2, none⟩) q1 cb1], .agg #[.int .i64 q, .int .i64 f, .slice (some ⟨b3, p3, none⟩) q2 ca2, .slice (some ⟨b4, p4, none⟩) q2 cb2], .int .i64 px, .int .i64 py] u fun e' w' => e' = .returned (.int .i64 pp) ∧ Below u.heap.size u w' from fun u h0 h1 => c_pair h0 h1 px py r2)
        have GX := Lib.hid gx
        have GY := Lib.hid gy
        clear gx gy sa sb t1 t2 t3 t4 z1 z2 z3 z4 r1 r2 hsx hsy hpx hpy hps hpp
        have cP0 := KP40.out.cell 0
        have cP1 := KP40.out.cell 1
        have cP2 := KP40.out.cell 2
        have cP3 := KP40.out.cell 3
        simp at cP0 cP1 cP2 cP3
        go_upto_region 11 with (fail)
        go_wp2_with (fail)
        refine wp_region_ext (by kernel_rfl) (by kernel_rfl) ?_
        repeat (go_big_quiet_step (first
          | fail))
        refine wpQuiet_nil ?_
        intro w_41 hb_41
        have BK1 := Lib.hid (BK.out.trans (hb_41.mono BK.out.size))
        clear cP0 cP1 cP2 cP3
        have B41 := Lib.hid (B40.out.trans (hb_41.mono B40.out.size))
        have KR41 := Lib.hid (KR40.out.next hb_41)
        have KS41 := Lib.hid (KS40.out.next hb_41)
        have IR41 := Lib.hid (IR40.out.next hb_41)
        have IS41 := Lib.hid (IS40.out.next hb_41)
        have KP41 := Lib.hid (KP40.out.next hb_41)
        have IP41 := Lib.hid (IP40.out.next hb_41)
        have KW41 := Lib.hid (KW40.out.next hb_41)
        have IW41 := Lib.hid (IW40.out.next hb_41)
        clear hb_41
        have cR0 := KR41.out.cell 0
        have cR1 := KR41.out.cell 1
        have cR2 := KR41.out.cell 2
        have cR3 := KR41.out.cell 3
        have cS0 := KS41.out.cell 0
        have cS1 := KS41.out.cell 1
        have cS2 := KS41.out.cell 2
        have cS3 := KS41.out.cell 3
        simp at cR0 cR1 cR2 cR3 cS0 cS1 cS2 cS3
        go_wp2_with (fail)
        refine wp_region_ext (by kernel_rfl) (by kernel_rfl) ?_
        repeat (go_big_quiet_step (first
          | (go_at_call 31; with_reducible refine calls_ext (F1.out _ (IR41.out.ext _) (IS41.out.ext _)))
          | (go_at_call 31; with_reducible refine calls_ext (F2.out _ (IR41.out.ext _) (IS41.out.ext _)))
          | fail))
        refine wpQuiet_nil ?_
        intro w_42 hb_42
        have BK2 := Lib.hid (BK1.out.trans (hb_42.mono BK1.out.size))
        clear cR0 cR1 cR2 cR3 cS0 cS1 cS2 cS3
        have B42 := Lib.hid (B41.out.trans (hb_42.mono B41.out.size))
        have KR42 := Lib.hid (KR41.out.next hb_42)
        have KS42 := Lib.hid (KS41.out.next hb_42)
        have IR42 := Lib.hid (IR41.out.next hb_42)
        have IS42 := Lib.hid (IS41.out.next hb_42)
        have KP42 := Lib.hid (KP41.out.next hb_42)
        have IP42 := Lib.hid (IP41.out.next hb_42)
        have KW42 := Lib.hid (KW41.out.next hb_42)
        have IW42 := Lib.hid (IW41.out.next hb_42)
        clear hb_42
        have cR0 := KR42.out.cell 0
        have cR1 := KR42.out.cell 1
        have cR2 := KR42.out.cell 2
        have cR3 := KR42.out.cell 3
        have cS0 := KS42.out.cell 0
        have cS1 := KS42.out.cell 1
        have cS2 := KS42.out.cell 2
        have cS3 := KS42.out.cell 3
        simp at cR0 cR1 cR2 cR3 cS0 cS1 cS2 cS3
        go_wp2_with (fail)
        refine wp_region_ext (by kernel_rfl) (by kernel_rfl) ?_
        repeat (go_big_quiet_step (first
          | (go_at_call 31; with_reducible refine calls_ext (F3.out _ (IR42.out.ext _) (IS42.out.ext _)))
          | (go_at_call 31; with_reducible refine calls_ext (F4.out _ (IR42.out.ext _) (IS42.out.ext _)))
          | fail))
        refine wpQuiet_nil ?_
        intro w_43 hb_43
        have BK3 := Lib.hid (BK2.out.trans (hb_43.mono BK2.out.size))
        clear cR0 cR1 cR2 cR3 cS0 cS1 cS2 cS3
        have B43 := Lib.hid (B42.out.trans (hb_43.mono B42.out.size))
        have KR43 := Lib.hid (KR42.out.next hb_43)
        have KS43 := Lib.hid (KS42.out.next hb_43)
        have IR43 := Lib.hid (IR42.out.next hb_43)
        have IS43 := Lib.hid (IS42.out.next hb_43)
        have KP43 := Lib.hid (KP42.out.next hb_43)
        have IP43 := Lib.hid (IP42.out.next hb_43)
        have KW43 := Lib.hid (KW42.out.next hb_43)
        have IW43 := Lib.hid (IW42.out.next hb_43)
        clear hb_43
        obtain ⟨_, _, eA, _, hcx⟩ := IP43.out.hX.at_ lka
        subst eA
        obtain ⟨_, _, eA, _, hcy⟩ := IP43.out.hY.at_ lkb
        subst eA
        rw [GX.out] at hcx
        rw [GY.out] at hcy
        have cR0 := KR43.out.cell 0
        have cR1 := KR43.out.cell 1
        have cR2 := KR43.out.cell 2
        have cR3 := KR43.out.cell 3
        have cS0 := KS43.out.cell 0
        have cS1 := KS43.out.cell 1
        have cS2 := KS43.out.cell 2
        have cS3 := KS43.out.cell 3
        have cP0 := KP43.out.cell 0
        have cP1 := KP43.out.cell 1
        have cP2 := KP43.out.cell 2
        have cP3 := KP43.out.cell 3
        simp at cR0 cR1 cR2 cR3 cS0 cS1 cS2 cS3 cP0 cP1 cP2 cP3
        go_wp2_with (fail)
        refine wp_region_ext (by kernel_rfl) (by kernel_rfl) ?_
        repeat (go_big_quiet_step (first
          | (go_at_call 33; with_reducible refine calls_ext (G1.out _ (IR43.out.ext _)))
          | (go_at_call 33; with_reducible refine calls_ext (G2.out _ (IS43.out.ext _)))
          | (go_at_call 32; with_reducible refine calls_ext (G3.out _ (IR43.out.ext _) (IS43.out.ext _)))
          | (go_at_call 34; with_reducible refine calls_ext (G4.out _ (IR43.out.ext _)))
          | (go_at_call 34; with_reducible refine calls_ext (G5.out _ (IS43.out.ext _)))
          | (go_at_call 32; with_reducible refine calls_ext (G6.out _ (IR43.out.ext _) (IS43.out.ext _)))
          | fail))
        refine wpQuiet_nil ?_
        intro w_44 hb_44
        have BK4 := Lib.hid (BK3.out.trans (hb_44.mono BK3.out.size))
        clear cR0 cR1 cR2 cR3 cS0 cS1 cS2 cS3 cP0 cP1 cP2 cP3
        have B44 := Lib.hid (B43.out.trans (hb_44.mono B43.out.size))
        have KR44 := Lib.hid (KR43.out.next hb_44)
        have KS44 := Lib.hid (KS43.out.next hb_44)
        have IR44 := Lib.hid (IR43.out.next hb_44)
        have IS44 := Lib.hid (IS43.out.next hb_44)
        have KP44 := Lib.hid (KP43.out.next hb_44)
        have IP44 := Lib.hid (IP43.out.next hb_44)
        have KW44 := Lib.hid (KW43.out.next hb_44)
        have IW44 := Lib.hid (IW43.out.next hb_44)
        clear hb_44
        go_wp2
        go_roundw
        case rel => exact ⟨k + 1, by omega, by go_num, BK4.out⟩
        case measure => simp [intOf]; omega
      · have i1 : ¬ (k : Int) < (N : Int) * N := by rw [S3.out]; omega
        have H1 := Lib.hid (show ∀ u, RIn u (some ⟨b1, p1, none⟩) q1 ca1 (some ⟨b2, p2, none⟩) q1 cb1 X1 Y1 → Calls Try.prog 27 #[.agg #[.int .i64 m, .int .i64 e, .slice (some ⟨b1, p1, none⟩) q1 ca1, .slice (some ⟨b2, p2, none⟩) q1 cb1]] u fun e' w' => e' = .returned (.int .i64 c) ∧ Below u.heap.size u w' from fun u h0 => c_char h0 _ (v_char V1.out CC.out))
        have H2 := Lib.hid (show ∀ u, RIn u (some ⟨b3, p3, none⟩) q2 ca2 (some ⟨b4, p4, none⟩) q2 cb2 X2 Y2 → Calls Try.prog 27 #[.agg #[.int .i64 q, .int .i64 f, .slice (some ⟨b3, p3, none⟩) q2 ca2, .slice (some ⟨b4, p4, none⟩) q2 cb2]] u fun e' w' => e' = .returned (.int .i64 d) ∧ Below u.heap.size u w' from fun u h0 => c_char h0 _ (v_char V2.out CD.out))
        have cR0 := KR40.out.cell 0
        have cR1 := KR40.out.cell 1
        have cR2 := KR40.out.cell 2
        have cR3 := KR40.out.cell 3
        have cS0 := KS40.out.cell 0
        have cS1 := KS40.out.cell 1
        have cS2 := KS40.out.cell 2
        have cS3 := KS40.out.cell 3
        simp at cR0 cR1 cR2 cR3 cS0 cS1 cS2 cS3
        go_wp2_with (fail)
        refine wp_region_ext (by kernel_rfl) (by kernel_rfl) ?_
        repeat (go_big_quiet_step (first
          | (go_at_call 27; with_reducible refine calls_ext (H1.out _ (IR40.out.ext _)))
          | (go_at_call 27; with_reducible refine calls_ext (H2.out _ (IS40.out.ext _)))
          | fail))
        refine wpQuiet_nil ?_
        intro w_41 hb_41
        clear cR0 cR1 cR2 cR3 cS0 cS1 cS2 cS3
        have B41 := Lib.hid (B40.out.trans (hb_41.mono B40.out.size))
        have KR41 := Lib.hid (KR40.out.next hb_41)
        have KS41 := Lib.hid (KS40.out.next hb_41)
        have IR41 := Lib.hid (IR40.out.next hb_41)
        have IS41 := Lib.hid (IS40.out.next hb_41)
        have KP41 := Lib.hid (KP40.out.next hb_41)
        have IP41 := Lib.hid (IP40.out.next hb_41)
        have KW41 := Lib.hid (KW40.out.next hb_41)
        have IW41 := Lib.hid (IW40.out.next hb_41)
        clear hb_41
        have cP0 := KP41.out.cell 0
        have cP1 := KP41.out.cell 1
        have cP2 := KP41.out.cell 2
        have cP3 := KP41.out.cell 3
        simp at cP0 cP1 cP2 cP3
        go_wp2_with (fail)
        refine (c_char IP41.out g (v_char V3.out CG.out)).mono ?_
        rintro e w_42 ⟨rfl, hb_42⟩
        clear cP0 cP1 cP2 cP3
        have B42 := Lib.hid (B41.out.trans (hb_42.mono B41.out.size))
        have KR42 := Lib.hid (KR41.out.next hb_42)
        have KS42 := Lib.hid (KS41.out.next hb_42)
        have IR42 := Lib.hid (IR41.out.next hb_42)
        have IS42 := Lib.hid (IS41.out.next hb_42)
        have KP42 := Lib.hid (KP41.out.next hb_42)
        have IP42 := Lib.hid (IP41.out.next hb_42)
        have KW42 := Lib.hid (KW41.out.next hb_42)
        have IW42 := Lib.hid (IW41.out.next hb_42)
        clear hb_42
        obtain ⟨k1, k2, k3⟩ := DV.out
        obtain ⟨y1, y2, y3, y4, y5, y6, y7⟩ := BC.out
        have r1 : (g : Int) % (c : Int) = 0 := Int.emod_eq_zero_of_dvd (Int.natCast_dvd_natCast.2 k1)
        have r2 : (g : Int) % (d : Int) = 0 := Int.emod_eq_zero_of_dvd (Int.natCast_dvd_natCast.2 k2)
        have hcd' : c * d ≤ 16 * 16 := Nat.mul_le_mul (by omega) (by omega)
        obtain ⟨cd, hcd⟩ : ∃ k, c * d = k := ⟨_, rfl⟩
        rw [hcd] at k3 hcd'
        have wcd : IntKind.i64.wrap ((c : Int) * d) = (cd : Int) := by rw [← Int.natCast_mul, hcd]; exact IntWalk.i64_in _ (by omega)
        have r3 : (cd : Int) % (g : Int) = 0 := Int.emod_eq_zero_of_dvd (Int.natCast_dvd_natCast.2 k3)
        have n1 : ¬ c = 0 := by omega
        have n2 : ¬ d = 0 := by omega
        have n4 : ¬ g = 0 := by omega
        clear k1 k2 k3 y1 y2 y3 y4 y5 y6 y7 hcd
        have cP0 := KP42.out.cell 0
        have cP1 := KP42.out.cell 1
        have cP2 := KP42.out.cell 2
        have cP3 := KP42.out.cell 3
        simp at cP0 cP1 cP2 cP3
        go_wp2_with (fail)
        refine (c_valid IP42.out true V3.out).mono ?_
        rintro e w_43 ⟨rfl, hb_43⟩
        clear cP0 cP1 cP2 cP3
        have B43 := Lib.hid (B42.out.trans (hb_43.mono B42.out.size))
        have KR43 := Lib.hid (KR42.out.next hb_43)
        have KS43 := Lib.hid (KS42.out.next hb_43)
        have IR43 := Lib.hid (IR42.out.next hb_43)
        have IS43 := Lib.hid (IS42.out.next hb_43)
        have KP43 := Lib.hid (KP42.out.next hb_43)
        have IP43 := Lib.hid (IP42.out.next hb_43)
        have KW43 := Lib.hid (KW42.out.next hb_43)
        have IW43 := Lib.hid (IW42.out.next hb_43)
        clear hb_43
        go_wp2_with (fail)
        go_ret
        exact ⟨rfl, B43.out⟩

end Go.Proofs.Ytihjnjcfiipcoaa
