
import Derived.Test.YtihjnjcfiipcoaaMJ
import Derived.Test.YtihjnjcfiipcoaaMH
/- The walk of the law FnRename. -/
namespace Go.Proofs.Ytihjnjcfiipcoaa
open Go.RowKit
set_option maxRecDepth 100000


/-- The numbers back, as far as they are written. -/
def backK (Z : List Int) (m j : Nat) : List Int := (List.range m).map fun i => if ro Z i < j then ((ro Z i : Nat) : Int) else 0
theorem backK_len {Z : List Int} {m j : Nat} : (backK Z m j).length = m := by simp [backK]
theorem backK_get {Z : List Int} {m j i : Nat} (hi : i < m) : (backK Z m j)[i]?.getD 0 = if ro Z i < j then ((ro Z i : Nat) : Int) else 0 := by
  unfold backK
  rw [List.getElem?_map, List.getElem?_range hi]
  rfl
theorem backK_zero {Z : List Int} {m : Nat} : backK Z m 0 = List.replicate m 0 := by
  simp [backK, List.map_const']
theorem backK_all {Z : List Int} {m : Nat} (h : NamesOk m Z) : backK Z m m = backL Z m := by
  unfold backK backL
  refine List.map_congr_left fun i hi => ?_
  rw [if_pos (h.ro_lt (List.mem_range.1 hi))]
theorem backK_set {Z : List Int} {m j : Nat} (h : NamesOk m Z) (hj : j < m) : (backK Z m j).set (nu Z j) (j : Int) = backK Z m (j + 1) := by
  refine List.ext_getElem (by simp [backK_len]) fun i h1 h2 => ?_
  have hi : i < m := by rw [backK_len] at h2; exact h2
  have e1 := backK_get (Z := Z) (j := j) hi
  have e2 := backK_get (Z := Z) (j := j + 1) hi
  rw [List.getElem?_eq_getElem (by rw [backK_len]; exact hi), Option.getD_some] at e1 e2
  rw [List.getElem_set, e2]
  by_cases e : nu Z j = i
  · subst e
    rw [if_pos rfl, h.back hj, if_pos (by omega)]
  · rw [if_neg e, e1]
    have hne : ro Z i ≠ j := fun e' => e (by rw [← e', h.nu_ro hi])
    by_cases hl : ro Z i < j
    · rw [if_pos hl, if_pos (by omega)]
    · rw [if_neg hl, if_neg (by omega)]
set_option maxHeartbeats 16000000 in
theorem fnRename_walk (A : Option Addr) (n c : Nat) (w : World) (hb : Byts w w.heap.size A n) (hc : n ≤ c) (hc2 : c ≤ 9223372036854775807) :
    Calls Try.prog 9 #[.slice A n c] w fun e w' => e = .returned (.bool true) ∧ Below w.heap.size w w' := by
  by_cases hbig : n > 1048576
  · have t0 : decide ((n : Int) > 1048576) = true := by simp; omega
    go_enter Try.func9, Try.ntmps9
    go_wp2_with (fail)
    go_ret
    exact ⟨rfl, Below.refl _ _⟩
  have hn : n ≤ 1048576 := by omega
  have t0 : decide ((n : Int) > 1048576) = false := by simp; omega
  go_enter Try.func9, Try.ntmps9
  go_wp2_with (fail)
  refine (drawRenameRing_any A n c w hb hn hc hc2).mono ?_
  rintro e w_0 ⟨v, FA, nF, cF, Z, rfl, hA, hF, hb_0⟩
  obtain ⟨N, O, A1, A2, q, ca, cb, X, Y, rfl, hI, _, _⟩ := hA.rin
  clear hA
  have B0 := Lib.hid (hb_0)
  have F0 := Lib.hid (hF)
  clear hb_0 hF
  obtain ⟨w_1, hV⟩ : ∃ V, World.alloc w_0 (.cells #[.int .i64 N, .int .i64 O, .slice A1 q ca, .slice A2 q cb] 25) = V := ⟨_, rfl⟩
  have hb_1 : Below (World.heap w_0).size w_0 w_1 := by subst hV; exact (Below.refl _ _).alloc (Nat.le_refl _) _
  obtain ⟨bR, hbx⟩ : ∃ b, b = (World.heap w_0).size := ⟨_, rfl⟩
  have KR1 := Lib.hid (show Blk w_1 bR 25 #[.int .i64 N, .int .i64 O, .slice A1 q ca, .slice A2 q cb] by subst hV hbx; exact Blk.new w_0 _ _)
  have B1 := Lib.hid (B0.out.trans (hb_1.mono B0.out.size))
  have F1 := Lib.hid (F0.out.next hb_1)
  have IR1 := Lib.hid (hI.next hb_1)
  clear hb_1 hI
  go_upto_region 4 with (fail)
  rw [← hbx]
  clear hV hbx
  have cR0 := KR1.out.cell 0
  have cR1 := KR1.out.cell 1
  have cR2 := KR1.out.cell 2
  have cR3 := KR1.out.cell 3
  simp at cR0 cR1 cR2 cR3
  go_wp2_with (fail)
  refine (rename_any N O A1 A2 FA q ca q cb nF cF X Y Z _ IR1.out.hX IR1.out.hY F1.out.at_.1 IR1.out.hla IR1.out.hlb (by have := F1.out.at_.2.2; omega) IR1.out.hca IR1.out.hcb).mono ?_
  rintro e w_2 ⟨v, rfl, hv, hb_2⟩
  obtain ⟨A3, A4, l3, c3, l4, c4, rfl, hI⟩ := RingOutB.rin hv
  clear hv
  clear cR0 cR1 cR2 cR3
  have B2 := Lib.hid (B1.out.trans (hb_2.mono B1.out.size))
  have F2 := Lib.hid (F1.out.next hb_2)
  have KR2 := Lib.hid (KR1.out.next hb_2)
  have IR2 := Lib.hid (IR1.out.next hb_2)
  clear hb_2
  obtain ⟨w_3, hV⟩ : ∃ V, World.alloc w_2 (.cells #[.int .i64 (rnN N O X Y Z), .int .i64 (rnO N O X Y Z), .slice A3 l3 c3, .slice A4 l4 c4] 25) = V := ⟨_, rfl⟩
  have hb_3 : Below (World.heap w_2).size w_2 w_3 := by subst hV; exact (Below.refl _ _).alloc (Nat.le_refl _) _
  obtain ⟨bS, hbx⟩ : ∃ b, b = (World.heap w_2).size := ⟨_, rfl⟩
  have KS3 := Lib.hid (show Blk w_3 bS 25 #[.int .i64 (rnN N O X Y Z), .int .i64 (rnO N O X Y Z), .slice A3 l3 c3, .slice A4 l4 c4] by subst hV hbx; exact Blk.new w_2 _ _)
  have B3 := Lib.hid (B2.out.trans (hb_3.mono B2.out.size))
  have F3 := Lib.hid (F2.out.next hb_3)
  have KR3 := Lib.hid (KR2.out.next hb_3)
  have IR3 := Lib.hid (IR2.out.next hb_3)
  have IS3 := Lib.hid (hI.next hb_3)
  clear hb_3 hI
  go_upto_region 5 with (fail)
  rw [← hbx]
  clear hV hbx
  have cR0 := KR3.out.cell 0
  have cR1 := KR3.out.cell 1
  have cR2 := KR3.out.cell 2
  have cR3 := KR3.out.cell 3
  simp at cR0 cR1 cR2 cR3
  go_wp2_with (fail)
  refine (srename_any N O A1 A2 FA q ca q cb nF cF X Y Z _ IR3.out.hX IR3.out.hY F3.out.at_.1 IR3.out.hla IR3.out.hlb (by have := F3.out.at_.2.2; omega) IR3.out.hca IR3.out.hcb).mono ?_
  rintro e w_4 ⟨v, rfl, hv, hb_4⟩
  obtain ⟨A5, A6, l5, c5, l6, c6, rfl, hI⟩ := RingOutB.rin hv
  clear hv
  clear cR0 cR1 cR2 cR3
  have B4 := Lib.hid (B3.out.trans (hb_4.mono B3.out.size))
  have F4 := Lib.hid (F3.out.next hb_4)
  have KR4 := Lib.hid (KR3.out.next hb_4)
  have IR4 := Lib.hid (IR3.out.next hb_4)
  have KS4 := Lib.hid (KS3.out.next hb_4)
  have IS4 := Lib.hid (IS3.out.next hb_4)
  clear hb_4
  obtain ⟨w_5, hV⟩ : ∃ V, World.alloc w_4 (.cells #[.int .i64 (rnN N O X Y Z), .int .i64 (rnO N O X Y Z), .slice A5 l5 c5, .slice A6 l6 c6] 25) = V := ⟨_, rfl⟩
  have hb_5 : Below (World.heap w_4).size w_4 w_5 := by subst hV; exact (Below.refl _ _).alloc (Nat.le_refl _) _
  obtain ⟨bW, hbx⟩ : ∃ b, b = (World.heap w_4).size := ⟨_, rfl⟩
  have KW5 := Lib.hid (show Blk w_5 bW 25 #[.int .i64 (rnN N O X Y Z), .int .i64 (rnO N O X Y Z), .slice A5 l5 c5, .slice A6 l6 c6] by subst hV hbx; exact Blk.new w_4 _ _)
  have B5 := Lib.hid (B4.out.trans (hb_5.mono B4.out.size))
  have F5 := Lib.hid (F4.out.next hb_5)
  have KR5 := Lib.hid (KR4.out.next hb_5)
  have IR5 := Lib.hid (IR4.out.next hb_5)
  have KS5 := Lib.hid (KS4.out.next hb_5)
  have IS5 := Lib.hid (IS4.out.next hb_5)
  have IW5 := Lib.hid (hI.next hb_5)
  clear hb_5 hI
  go_upto_region 6 with (fail)
  rw [← hbx]
  clear hV hbx
  cases hok : rnB N O X Y Z
  · skip
    have cS0 := KS5.out.cell 0
    have cS1 := KS5.out.cell 1
    have cS2 := KS5.out.cell 2
    have cS3 := KS5.out.cell 3
    have cW0 := KW5.out.cell 0
    have cW1 := KW5.out.cell 1
    have cW2 := KW5.out.cell 2
    have cW3 := KW5.out.cell 3
    simp at cS0 cS1 cS2 cS3 cW0 cW1 cW2 cW3
    go_wp2_with (fail)
    refine (c_frRing IS5.out IW5.out true sameB_self).mono ?_
    rintro e w_6 ⟨rfl, hb_6⟩
    clear cS0 cS1 cS2 cS3 cW0 cW1 cW2 cW3
    have B6 := Lib.hid (B5.out.trans (hb_6.mono B5.out.size))
    have F6 := Lib.hid (F5.out.next hb_6)
    have KR6 := Lib.hid (KR5.out.next hb_6)
    have IR6 := Lib.hid (IR5.out.next hb_6)
    have KS6 := Lib.hid (KS5.out.next hb_6)
    have IS6 := Lib.hid (IS5.out.next hb_6)
    have KW6 := Lib.hid (KW5.out.next hb_6)
    have IW6 := Lib.hid (IW5.out.next hb_6)
    clear hb_6
    have cS0 := KS6.out.cell 0
    have cS1 := KS6.out.cell 1
    have cS2 := KS6.out.cell 2
    have cS3 := KS6.out.cell 3
    have cW0 := KW6.out.cell 0
    have cW1 := KW6.out.cell 1
    have cW2 := KW6.out.cell 2
    have cW3 := KW6.out.cell 3
    simp at cS0 cS1 cS2 cS3 cW0 cW1 cW2 cW3
    go_wp2_with (fail)
    refine (c_frRing IS6.out IW6.out true sameB_self).mono ?_
    rintro e w_7 ⟨rfl, hb_7⟩
    clear cS0 cS1 cS2 cS3 cW0 cW1 cW2 cW3
    have B7 := Lib.hid (B6.out.trans (hb_7.mono B6.out.size))
    have F7 := Lib.hid (F6.out.next hb_7)
    have KR7 := Lib.hid (KR6.out.next hb_7)
    have IR7 := Lib.hid (IR6.out.next hb_7)
    have KS7 := Lib.hid (KS6.out.next hb_7)
    have IS7 := Lib.hid (IS6.out.next hb_7)
    have KW7 := Lib.hid (KW6.out.next hb_7)
    have IW7 := Lib.hid (IW6.out.next hb_7)
    clear hb_7
    go_wp2_with (fail)
    go_ret
    exact ⟨rfl, B7.out⟩
  · obtain ⟨v1, nz⟩ := rnB_data hok
    obtain ⟨m, e, b1, o1, b2, o2, rfl, rfl, rfl, rfl, hr, _, lX, lY, gX, gY⟩ := valid_data v1 IR5.out.hX IR5.out.hY IR5.out.hca IR5.out.hcb
    have nz : NamesOk m Z := nz
    have hm := hr.hm
    have hm' := hr.hm'
    have he := hr.he
    have R := rtab_of_valid v1
    have hla : q = m * m := IR5.out.hX.1.symm.trans lX
    have hnF : m = nF := nz.length.symm.trans F5.out.at_.1.1
    subst hnF
    have en : rnN m e X Y Z = m := by unfold rnN; rw [if_pos hok]
    have eo : rnO m e X Y Z = ((nu Z e : Nat) : Int) := by unfold rnO; rw [if_pos hok]; rfl
    have eX : rnT X m e X Y Z = tabZ m (rnF Z m (tabOf X)) (m * m) := by unfold rnT; rw [if_pos hok]; rfl
    have eY : rnT Y m e X Y Z = tabZ m (rnF Z m (tabOf Y)) (m * m) := by unfold rnT; rw [if_pos hok]; rfl
    have v2 := (rename_fring R nz).valid hm'
    have ch := rename_char R nz he
    have k2 := rnB_yes (Z := backL Z m) v2 (show NamesOk (m : Int).toNat (backL Z m) from backL_ok hm nz)
    have tX := tabZ_back hm nz lX gX
    have tY := tabZ_back hm nz lY gY
    have aX := fun a b (ha : a < m) (hb : b < m) => rename_at (S := tabOf X) nz ha hb
    have aY := fun a b (ha : a < m) (hb : b < m) => rename_at (S := tabOf Y) nz ha hb
    have ob : nu (backL Z m) (nu Z e) = e := by rw [backL_nu (nz.nu_lt he), nz.back he]
    obtain ⟨e2, he2⟩ : ∃ k, nu Z e = k := ⟨_, rfl⟩
    obtain ⟨X2, hX2⟩ : ∃ L, tabZ m (rnF Z m (tabOf X)) (m * m) = L := ⟨_, rfl⟩
    obtain ⟨Y2, hY2⟩ : ∃ L, tabZ m (rnF Z m (tabOf Y)) (m * m) = L := ⟨_, rfl⟩
    rw [he2] at eo ob v2 ch k2
    rw [hX2] at eX v2 ch k2 tX aX
    rw [hY2] at eY v2 k2 tY aY
    rw [en, eo] at KS5 KW5
    rw [eX, eY] at IS5 IW5
    obtain ⟨cc, hcc⟩ : ∃ k, ordN m (tabOf X) e = k := ⟨_, rfl⟩
    rw [hcc] at ch
    have gn : rnN m e2 X2 Y2 (backL Z m) = m := by unfold rnN; rw [if_pos k2]
    have go : rnO m e2 X2 Y2 (backL Z m) = e := by unfold rnO; rw [if_pos k2, Int.toNat_natCast, ob]
    have gX2 : rnT X2 m e2 X2 Y2 (backL Z m) = X := by unfold rnT; rw [if_pos k2]; exact tX
    have gY2 : rnT Y2 m e2 X2 Y2 (backL Z m) = Y := by unfold rnT; rw [if_pos k2]; exact tY
    have V1 := Lib.hid v1
    have V2 := Lib.hid v2
    have NZ := Lib.hid nz
    have CH := Lib.hid ch
    have CC := Lib.hid hcc
    have K2 := Lib.hid k2
    have AX := Lib.hid aX
    have AY := Lib.hid aY
    have GN := Lib.hid gn
    have GO := Lib.hid go
    have GX2 := Lib.hid gX2
    have GY2 := Lib.hid gY2
    have GX := Lib.hid gX
    have GY := Lib.hid gY
    have HLA := Lib.hid hla
    have RR := Lib.hid R
    clear v1 v2 nz ch hcc k2 aX aY gn go gX2 gY2 gX gY R hr tX tY ob en eo eX eY he2 hX2 hY2 lX lY hok hla
    obtain ⟨s1, s2, s3, s4⟩ := sqI hm'
    have S3 := Lib.hid s3
    clear s3
    have cS0 := KS5.out.cell 0
    have cS1 := KS5.out.cell 1
    have cS2 := KS5.out.cell 2
    have cS3 := KS5.out.cell 3
    have cW0 := KW5.out.cell 0
    have cW1 := KW5.out.cell 1
    have cW2 := KW5.out.cell 2
    have cW3 := KW5.out.cell 3
    simp at cS0 cS1 cS2 cS3 cW0 cW1 cW2 cW3
    go_wp2_with (fail)
    refine (c_frRing IS5.out IW5.out true sameB_self).mono ?_
    rintro e w_6 ⟨rfl, hb_6⟩
    clear cS0 cS1 cS2 cS3 cW0 cW1 cW2 cW3
    have B6 := Lib.hid (B5.out.trans (hb_6.mono B5.out.size))
    have F6 := Lib.hid (F5.out.next hb_6)
    have KR6 := Lib.hid (KR5.out.next hb_6)
    have IR6 := Lib.hid (IR5.out.next hb_6)
    have KS6 := Lib.hid (KS5.out.next hb_6)
    have IS6 := Lib.hid (IS5.out.next hb_6)
    have KW6 := Lib.hid (KW5.out.next hb_6)
    have IW6 := Lib.hid (IW5.out.next hb_6)
    clear hb_6
    have hFl := F6.out.at_.1
    obtain ⟨i0, hi, hz0, hz1, hz2⟩ := info_parts int_info
    obtain ⟨D0, hD0⟩ : ∃ d, w_6.heap.size = d := ⟨_, rfl⟩
    go_wp2_with (at_make; refine wpList_make_full _ rfl (.tmp 59) (.tmp 59) 23 rfl w_6.heap.size 3 i0 (.int .i64 0) 1 Try.underlying23 hi hz0 hz1 .i64 .i64 _ _ m rfl rfl rfl rfl (by rw [hz2]; omega) (by unfold maxLen; omega) (Nat.le_refl _) ?_; intro wm hown1 hg1)
    have hbm : Below w_6.heap.size w_6 wm := (Below.refl _ _).grown hg1 (Nat.le_refl _) (by simp)
    have OM := Lib.hid (show wm.ownsRow D0 3 1 (.slice (some ⟨D0, 0, none⟩) m m) m (intsV (backK Z m 0)) from by
      rw [backK_zero, show intsV (List.replicate m 0) = fillL [] m 0 by simp [fillL, intsV, List.map_const'], ← fillL_zero, ← hD0]
      exact hown1)
    have BM := Lib.hid hbm
    rw [hD0] at BM
    clear hbm hown1 hg1 hz0 hz1 hz2 hi hFl
    go_loopw [63] (fun iv wr => ∃ j : Nat, j ≤ m ∧ iv = .int .i64 j ∧ wr.ownsRow D0 3 1 (.slice (some ⟨D0, 0, none⟩) m m) m (intsV (backK Z m j)) ∧ Below D0 w_6 wr) (fun iv _ => m - (intOf iv).toNat)
    case atStart => exact ⟨0, Nat.zero_le _, rfl, OM.out, BM.out⟩
    case round =>
      obtain ⟨j, hj, rfl, ho, hbr⟩ := hrel
      have OJ := Lib.hid ho
      have BJ := Lib.hid hbr
      rw [← hD0] at hbr
      have B20 := Lib.hid (B6.out.trans (hbr.mono B6.out.size))
      have F20 := Lib.hid (F6.out.next hbr)
      have KR20 := Lib.hid (KR6.out.next hbr)
      have IR20 := Lib.hid (IR6.out.next hbr)
      have KS20 := Lib.hid (KS6.out.next hbr)
      have IS20 := Lib.hid (IS6.out.next hbr)
      have KW20 := Lib.hid (KW6.out.next hbr)
      have IW20 := Lib.hid (IW6.out.next hbr)
      clear ho hbr
      by_cases hlt : j < m
      · obtain ⟨bF, oF, eF, _, hcell⟩ := F20.out.at_.1.at_ hlt
        subst eF
        obtain ⟨e1, e3⟩ := NZ.out.get hlt
        rw [e1] at hcell
        have bs := backK_set NZ.out hlt
        obtain ⟨y, hy⟩ : ∃ y, nu Z j = y := ⟨_, rfl⟩
        rw [hy] at hcell e3 bs
        have BS := Lib.hid bs
        have q1 := OJ.out.cellAt y (by omega)
        rw [intsV_get (by rw [backK_len]; exact e3)] at q1
        have q2 := OJ.out.frozenAt y
        clear bs hy e1
        go_wp2
        go_roundw
        case rel =>
          refine ⟨j + 1, by omega, by go_num, ?_, BJ.out.setCell (Nat.le_refl _) _⟩
          rw [← BS.out, ← intsV_set]
          exact (OJ.out.stored y (.int .i64 (j : Int))).1
        case measure => simp [intOf]; omega
      · have hjm : j = m := by omega
        subst hjm
        have OB := Lib.hid (show Ints wr wr.heap.size (some ⟨D0, 0, none⟩) j (backL Z j) from by
          have h1 := OJ.out
          rw [backK_all NZ.out] at h1
          exact (own_of_row h1 backL_len).ints)
        obtain ⟨w_20, rfl⟩ : ∃ ws, ws = wr := ⟨_, rfl⟩
        clear OJ BJ OM BM hlt hj
        have OB20 := OB
        clear OB
        have cS0 := KS20.out.cell 0
        have cS1 := KS20.out.cell 1
        have cS2 := KS20.out.cell 2
        have cS3 := KS20.out.cell 3
        simp at cS0 cS1 cS2 cS3
        go_wp2_with (fail)
        refine (rename_any j e2 A3 A4 (some ⟨D0, 0, none⟩) l3 c3 l4 c4 j j X2 Y2 (backL Z j) _ IS20.out.hX IS20.out.hY OB20.out IS20.out.hla IS20.out.hlb (by omega) IS20.out.hca IS20.out.hcb).mono ?_
        rintro e w_21 ⟨v, rfl, hv, hb_21⟩
        obtain ⟨A7, A8, l7, c7, l8, c8, rfl, hI⟩ := RingOutB.rin hv
        clear hv
        clear cS0 cS1 cS2 cS3
        have B21 := Lib.hid (B20.out.trans (hb_21.mono B20.out.size))
        have F21 := Lib.hid (F20.out.next hb_21)
        have KR21 := Lib.hid (KR20.out.next hb_21)
        have IR21 := Lib.hid (IR20.out.next hb_21)
        have KS21 := Lib.hid (KS20.out.next hb_21)
        have IS21 := Lib.hid (IS20.out.next hb_21)
        have KW21 := Lib.hid (KW20.out.next hb_21)
        have IW21 := Lib.hid (IW20.out.next hb_21)
        have OB21 := Lib.hid (OB20.out.next hb_21)
        clear hb_21
        rw [GN.out, GO.out]
        rw [GX2.out, GY2.out] at hI
        rw [K2.out]
        obtain ⟨w_22, hV⟩ : ∃ V, World.alloc w_21 (.cells #[.int .i64 j, .int .i64 e, .slice A7 l7 c7, .slice A8 l8 c8] 25) = V := ⟨_, rfl⟩
        have hb_22 : Below (World.heap w_21).size w_21 w_22 := by subst hV; exact (Below.refl _ _).alloc (Nat.le_refl _) _
        obtain ⟨bG, hbx⟩ : ∃ b, b = (World.heap w_21).size := ⟨_, rfl⟩
        have KG22 := Lib.hid (show Blk w_22 bG 25 #[.int .i64 j, .int .i64 e, .slice A7 l7 c7, .slice A8 l8 c8] by subst hV hbx; exact Blk.new w_21 _ _)
        have B22 := Lib.hid (B21.out.trans (hb_22.mono B21.out.size))
        have F22 := Lib.hid (F21.out.next hb_22)
        have KR22 := Lib.hid (KR21.out.next hb_22)
        have IR22 := Lib.hid (IR21.out.next hb_22)
        have KS22 := Lib.hid (KS21.out.next hb_22)
        have IS22 := Lib.hid (IS21.out.next hb_22)
        have KW22 := Lib.hid (KW21.out.next hb_22)
        have IW22 := Lib.hid (IW21.out.next hb_22)
        have IG22 := Lib.hid (hI.next hb_22)
        clear hb_22 hI
        go_upto_region 15 with (fail)
        rw [← hbx]
        clear hV hbx
        have cR0 := KR22.out.cell 0
        have cR1 := KR22.out.cell 1
        have cR2 := KR22.out.cell 2
        have cR3 := KR22.out.cell 3
        simp at cR0 cR1 cR2 cR3
        have BQ := Lib.hid (Below.refl w_22.heap.size w_22)
        go_wp2_with (fail)
        go_loopw [84] (fun iv wr => ∃ k : Nat, k ≤ j * j ∧ iv = .int .i64 k ∧ Below w_22.heap.size w_22 wr) (fun iv _ => j * j - (intOf iv).toNat)
        case atStart => exact ⟨0, Nat.zero_le _, rfl, Below.refl _ _⟩
        case round =>
          obtain ⟨k, hk, rfl, hbr⟩ := hrel
          have BK := Lib.hid hbr
          clear cR0 cR1 cR2 cR3
          have B40 := Lib.hid (B22.out.trans (hbr.mono B22.out.size))
          have F40 := Lib.hid (F22.out.next hbr)
          have KR40 := Lib.hid (KR22.out.next hbr)
          have IR40 := Lib.hid (IR22.out.next hbr)
          have KS40 := Lib.hid (KS22.out.next hbr)
          have IS40 := Lib.hid (IS22.out.next hbr)
          have KW40 := Lib.hid (KW22.out.next hbr)
          have IW40 := Lib.hid (IW22.out.next hbr)
          have KG40 := Lib.hid (KG22.out.next hbr)
          have IG40 := Lib.hid (IG22.out.next hbr)
          clear hbr BQ
          obtain ⟨w_40, rfl⟩ : ∃ ws, ws = wr := ⟨_, rfl⟩
          by_cases hlt : k < j * j
          · have i1 : (k : Int) < (j : Int) * j := by rw [S3.out]; omega
            have n3 : ¬ j = 0 := by omega
            obtain ⟨p1, p2⟩ := parts2 hlt
            have lka : k < q := by rw [HLA.out]; exact hlt
            obtain ⟨gx, lx⟩ := GX.out k hlt
            obtain ⟨gy, ly⟩ := GY.out k hlt
            have hkk : k / j * j + k % j = k := by rw [Nat.mul_comm]; exact Nat.div_add_mod k j
            have ax := AX.out _ _ p1 p2
            have ay := AY.out _ _ p1 p2
            rw [hkk] at ax ay
            obtain ⟨a, ea⟩ : ∃ a : Nat, k / j = a := ⟨_, rfl⟩
            obtain ⟨b, eb⟩ : ∃ b : Nat, k % j = b := ⟨_, rfl⟩
            have f1 : (k : Int) / j = (a : Int) := by rw [← ea]; simp
            have f2 : (k : Int) % j = (b : Int) := by rw [← eb]; simp
            rw [ea] at p1 ax ay
            rw [eb] at p2 ax ay
            obtain ⟨sv, hsv⟩ : ∃ s, tabOf X k = s := ⟨_, rfl⟩
            obtain ⟨pv, hpv⟩ : ∃ s, tabOf Y k = s := ⟨_, rfl⟩
            rw [hsv] at gx lx ax
            rw [hpv] at gy ly ay
            have GXK := Lib.hid gx
            have GYK := Lib.hid gy
            have AXK := Lib.hid ax
            have AYK := Lib.hid ay
            clear gx gy ax ay hkk ea eb hsv hpv
            have cR0 := KR40.out.cell 0
            have cR1 := KR40.out.cell 1
            have cR2 := KR40.out.cell 2
            have cR3 := KR40.out.cell 3
            simp at cR0 cR1 cR2 cR3
            go_upto_region 18 with (fail)
            go_wp2_with (fail)
            refine wp_region_ext (by kernel_rfl) (by kernel_rfl) ?_
            repeat (go_big_quiet_step (first
              | fail))
            refine wpQuiet_nil ?_
            intro w_41 hb_41
            have BK1 := Lib.hid (BK.out.trans (hb_41.mono BK.out.size))
            clear cR0 cR1 cR2 cR3
            have B41 := Lib.hid (B40.out.trans (hb_41.mono B40.out.size))
            have F41 := Lib.hid (F40.out.next hb_41)
            have KR41 := Lib.hid (KR40.out.next hb_41)
            have IR41 := Lib.hid (IR40.out.next hb_41)
            have KS41 := Lib.hid (KS40.out.next hb_41)
            have IS41 := Lib.hid (IS40.out.next hb_41)
            have KW41 := Lib.hid (KW40.out.next hb_41)
            have IW41 := Lib.hid (IW40.out.next hb_41)
            have KG41 := Lib.hid (KG40.out.next hb_41)
            have IG41 := Lib.hid (IG40.out.next hb_41)
            clear hb_41
            have hcx := (IR41.out.hX.at_ lka)
            obtain ⟨_, _, eA, _, hcx⟩ := hcx
            injection eA with eA
            injection eA with eA1 eA2
            subst eA1 eA2
            obtain ⟨_, _, eA, _, hcy⟩ := IR41.out.hY.at_ lka
            injection eA with eA
            injection eA with eA1 eA2
            subst eA1 eA2
            rw [GXK.out] at hcx
            rw [GYK.out] at hcy
            obtain ⟨ea1, ea2⟩ := NZ.out.get p1
            obtain ⟨eb1, eb2⟩ := NZ.out.get p2
            obtain ⟨es1, es2⟩ := NZ.out.get lx
            obtain ⟨ep1, ep2⟩ := NZ.out.get ly
            obtain ⟨_, _, eF, _, hca_⟩ := F41.out.at_.1.at_ p1
            subst eF
            obtain ⟨_, _, eF, _, hcb_⟩ := F41.out.at_.1.at_ p2
            injection eF with eF
            injection eF with eF1 eF2
            subst eF1 eF2
            obtain ⟨_, _, eF, _, hcs_⟩ := F41.out.at_.1.at_ lx
            injection eF with eF
            injection eF with eF1 eF2
            subst eF1 eF2
            obtain ⟨_, _, eF, _, hcp_⟩ := F41.out.at_.1.at_ ly
            injection eF with eF
            injection eF with eF1 eF2
            subst eF1 eF2
            rw [ea1] at hca_
            rw [eb1] at hcb_
            rw [es1] at hcs_
            rw [ep1] at hcp_
            have ax := AXK.out
            have ay := AYK.out
            obtain ⟨na, ena⟩ : ∃ s, nu Z a = s := ⟨_, rfl⟩
            obtain ⟨nb, enb⟩ : ∃ s, nu Z b = s := ⟨_, rfl⟩
            obtain ⟨ns, ens⟩ : ∃ s, nu Z sv = s := ⟨_, rfl⟩
            obtain ⟨np, enp⟩ : ∃ s, nu Z pv = s := ⟨_, rfl⟩
            rw [ena] at hca_ ea2 ax ay
            rw [enb] at hcb_ eb2 ax ay
            rw [ens] at hcs_ ax
            rw [enp] at hcp_ ay
            have AXL := Lib.hid ax
            have AYL := Lib.hid ay
            clear ax ay ea1 eb1 es1 ep1 ena enb ens enp es2 ep2
            have F1 := Lib.hid (show ∀ u, RIn u (A3) l3 c3 (A4) l4 c4 X2 Y2 → Calls Try.prog 33 #[.agg #[.int .i64 j, .int .i64 e2, .slice (A3) l3 c3, .slice (A4) l4 c4], .int .i64 na, .int .i64 nb] u fun e' w' => e' = .returned (.int .i64 ns) ∧ Below u.heap.size u w' from fun u h0 => c_frAdd h0 V2.out ea2 eb2 AXL.out rfl rfl rfl)
            have F2 := Lib.hid (show ∀ u, RIn u (A3) l3 c3 (A4) l4 c4 X2 Y2 → Calls Try.prog 34 #[.agg #[.int .i64 j, .int .i64 e2, .slice (A3) l3 c3, .slice (A4) l4 c4], .int .i64 na, .int .i64 nb] u fun e' w' => e' = .returned (.int .i64 np) ∧ Below u.heap.size u w' from fun u h0 => c_frMul h0 V2.out ea2 eb2 AYL.out rfl rfl rfl)
            have cR0 := KR41.out.cell 0
            have cR1 := KR41.out.cell 1
            have cR2 := KR41.out.cell 2
            have cR3 := KR41.out.cell 3
            have cS0 := KS41.out.cell 0
            have cS1 := KS41.out.cell 1
            have cS2 := KS41.out.cell 2
            have cS3 := KS41.out.cell 3
            simp at cR0 cR1 cR2 cR3 cS0 cS1 cS2 cS3
            go_wp2_with (fail)
            refine wp_region_ext (by kernel_rfl) (by kernel_rfl) ?_
            repeat (go_big_quiet_step (first
              | (go_at_call 33; with_reducible refine calls_ext (F1.out _ (IS41.out.ext _)))
              | (go_at_call 34; with_reducible refine calls_ext (F2.out _ (IS41.out.ext _)))
              | fail))
            refine wpQuiet_nil ?_
            intro w_42 hb_42
            have BK2 := Lib.hid (BK1.out.trans (hb_42.mono BK1.out.size))
            clear cR0 cR1 cR2 cR3 cS0 cS1 cS2 cS3
            have B42 := Lib.hid (B41.out.trans (hb_42.mono B41.out.size))
            have F42 := Lib.hid (F41.out.next hb_42)
            have KR42 := Lib.hid (KR41.out.next hb_42)
            have IR42 := Lib.hid (IR41.out.next hb_42)
            have KS42 := Lib.hid (KS41.out.next hb_42)
            have IS42 := Lib.hid (IS41.out.next hb_42)
            have KW42 := Lib.hid (KW41.out.next hb_42)
            have IW42 := Lib.hid (IW41.out.next hb_42)
            have KG42 := Lib.hid (KG41.out.next hb_42)
            have IG42 := Lib.hid (IG41.out.next hb_42)
            clear hb_42
            go_wp2
            go_roundw
            case rel => exact ⟨k + 1, by omega, by go_num, BK2.out⟩
            case measure => simp [intOf]; omega
          · have i1 : ¬ (k : Int) < (j : Int) * j := by rw [S3.out]; omega
            have H1 := Lib.hid (show ∀ u, RIn u (A3) l3 c3 (A4) l4 c4 X2 Y2 → Calls Try.prog 17 #[.agg #[.int .i64 j, .int .i64 e2, .slice (A3) l3 c3, .slice (A4) l4 c4]] u fun e' w' => e' = .returned (.bool true) ∧ Below u.heap.size u w' from fun u h0 => c_valid h0 _ V2.out)
            have H2 := Lib.hid (show ∀ u, RIn u (A7) l7 c7 (A8) l8 c8 X Y → RIn u (some ⟨b1, o1, none⟩) q ca (some ⟨b2, o2, none⟩) q cb X Y → Calls Try.prog 18 #[.agg #[.int .i64 j, .int .i64 e, .slice (A7) l7 c7, .slice (A8) l8 c8], .agg #[.int .i64 j, .int .i64 e, .slice (some ⟨b1, o1, none⟩) q ca, .slice (some ⟨b2, o2, none⟩) q cb]] u fun e' w' => e' = .returned (.bool true) ∧ Below u.heap.size u w' from fun u h0 h1 => c_frRing h0 h1 true sameB_self)
            have H3 := Lib.hid (show ∀ u, RIn u (A3) l3 c3 (A4) l4 c4 X2 Y2 → Calls Try.prog 27 #[.agg #[.int .i64 j, .int .i64 e2, .slice (A3) l3 c3, .slice (A4) l4 c4]] u fun e' w' => e' = .returned (.int .i64 cc) ∧ Below u.heap.size u w' from fun u h0 => c_char h0 _ (v_char V2.out CH.out))
            have H4 := Lib.hid (show ∀ u, RIn u (some ⟨b1, o1, none⟩) q ca (some ⟨b2, o2, none⟩) q cb X Y → Calls Try.prog 27 #[.agg #[.int .i64 j, .int .i64 e, .slice (some ⟨b1, o1, none⟩) q ca, .slice (some ⟨b2, o2, none⟩) q cb]] u fun e' w' => e' = .returned (.int .i64 cc) ∧ Below u.heap.size u w' from fun u h0 => c_char h0 _ (v_char V1.out CC.out))
            have cR0 := KR40.out.cell 0
            have cR1 := KR40.out.cell 1
            have cR2 := KR40.out.cell 2
            have cR3 := KR40.out.cell 3
            have cS0 := KS40.out.cell 0
            have cS1 := KS40.out.cell 1
            have cS2 := KS40.out.cell 2
            have cS3 := KS40.out.cell 3
            have cG0 := KG40.out.cell 0
            have cG1 := KG40.out.cell 1
            have cG2 := KG40.out.cell 2
            have cG3 := KG40.out.cell 3
            simp at cR0 cR1 cR2 cR3 cS0 cS1 cS2 cS3 cG0 cG1 cG2 cG3
            go_wp2_with (fail)
            refine wp_region_ext (by kernel_rfl) (by kernel_rfl) ?_
            repeat (go_big_quiet_step (first
              | (go_at_call 17; with_reducible refine calls_ext (H1.out _ (IS40.out.ext _)))
              | (go_at_call 18; with_reducible refine calls_ext (H2.out _ (IG40.out.ext _) (IR40.out.ext _)))
              | (go_at_call 27; with_reducible refine calls_ext (H3.out _ (IS40.out.ext _)))
              | (go_at_call 27; with_reducible refine calls_ext (H4.out _ (IR40.out.ext _)))
              | fail))
            refine wpQuiet_nil ?_
            intro w_41 hb_41
            clear cR0 cR1 cR2 cR3 cS0 cS1 cS2 cS3 cG0 cG1 cG2 cG3
            have B41 := Lib.hid (B40.out.trans (hb_41.mono B40.out.size))
            have F41 := Lib.hid (F40.out.next hb_41)
            have KR41 := Lib.hid (KR40.out.next hb_41)
            have IR41 := Lib.hid (IR40.out.next hb_41)
            have KS41 := Lib.hid (KS40.out.next hb_41)
            have IS41 := Lib.hid (IS40.out.next hb_41)
            have KW41 := Lib.hid (KW40.out.next hb_41)
            have IW41 := Lib.hid (IW40.out.next hb_41)
            have KG41 := Lib.hid (KG40.out.next hb_41)
            have IG41 := Lib.hid (IG40.out.next hb_41)
            clear hb_41
            go_wp2_with (fail)
            go_ret
            exact ⟨rfl, B41.out⟩

end Go.Proofs.Ytihjnjcfiipcoaa
