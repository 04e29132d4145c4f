
import Derived.Test.YtkjanhcajopfhaaLWM
import Derived.Test.YtkjanhcajopfhaaLER
import Derived.Test.YtkjanhcajopfhaaMH
/- The walk of the law FnDerive. -/
namespace Go.Proofs.Ytkjanhcajopfhaa
open Go.RowKit
set_option maxRecDepth 100000

theorem eqL_own_DE {xs : List Int} : eqL xs xs = true := eqL_true rfl fun _ _ => rfl
set_option maxHeartbeats 16000000 in
theorem fnDerive_walk (A : Option Addr) (n c : Nat) (A' : Option Addr) (n' c' : Nat) (w : World) (hb : Byts w w.heap.size A n) (hc : n ≤ c) (hc2 : c ≤ 9223372036854775807) (_hb' : Byts w w.heap.size A' n') (_hc' : n' ≤ c') (_hc2' : c' ≤ 9223372036854775807) :
    Calls Try.prog 12 #[.slice A n c, .slice A' n' c'] w fun e w' => e = .returned (.bool true) ∧ Below w.heap.size w w' := by
  by_cases hbig : n > 1048576
  · have t0 : decide ((n : Int) > 1048576) = true := by simp; omega
    go_enter Try.func12, Try.ntmps12
    go_wp2_with (fail)
    go_ret
    exact ⟨rfl, Below.refl _ _⟩
  have hn : n ≤ 1048576 := by omega
  have t0 : decide ((n : Int) > 1048576) = false := by simp; omega
  by_cases hbig2 : n' > 1048576
  · have t0' : decide ((n' : Int) > 1048576) = true := by simp; omega
    go_enter Try.func12, Try.ntmps12
    go_wp2_with (fail)
    go_ret
    exact ⟨rfl, Below.refl _ _⟩
  have hn' : n' ≤ 1048576 := by omega
  have t0' : decide ((n' : Int) > 1048576) = false := by simp; omega
  go_enter Try.func12, Try.ntmps12
  go_wp2_with (fail)
  refine (drawDerivePoly_any A n c w hb hn hc hc2).mono ?_
  rintro e w_0 ⟨v, v1, rfl, hA, ⟨L, hF, hfl⟩, hb_0⟩
  obtain ⟨N, O, A1, A2, q, ca, cb, X, Y, rfl, hI, _, _⟩ := hA.rin
  obtain ⟨FA, nF, cF, rfl, _⟩ := id hF
  clear hA
  have B0 := Lib.hid (hb_0)
  have F0 := Lib.hid (hF)
  clear hb_0 hF
  obtain ⟨w_1, hV⟩ : ∃ V, World.alloc w_0 (.cells #[.int .i64 N, .int .i64 O, .slice A1 q ca, .slice A2 q cb] 27) = V := ⟨_, rfl⟩
  have hb_1 : Below (World.heap w_0).size w_0 w_1 := by subst hV; exact (Below.refl _ _).alloc (Nat.le_refl _) _
  obtain ⟨bR, hbx⟩ : ∃ b, b = (World.heap w_0).size := ⟨_, rfl⟩
  have KR1 := Lib.hid (show Blk w_1 bR 27 #[.int .i64 N, .int .i64 O, .slice A1 q ca, .slice A2 q cb] by subst hV hbx; exact Blk.new w_0 _ _)
  have B1 := Lib.hid (B0.out.trans (hb_1.mono B0.out.size))
  have F1 := Lib.hid (F0.out.next hb_1)
  have IR1 := Lib.hid (hI.next hb_1)
  clear hb_1 hI
  go_upto_region 4 with (fail)
  rw [← hbx]
  clear hV hbx
  cases hok : polB N O X Y L
  · have HOK := Lib.hid hok
    clear hok
    have cR0 := KR1.out.cell 0
    have cR1 := KR1.out.cell 1
    have cR2 := KR1.out.cell 2
    have cR3 := KR1.out.cell 3
    simp at cR0 cR1 cR2 cR3
    go_wp2_with (fail)
    refine (pde_any N O (A1) (A2) (FA) q ca q cb nF cF X Y (L) _ IR1.out.hX IR1.out.hY F1.out.at_.1 IR1.out.hla IR1.out.hlb (by have := F1.out.at_.2.2; omega) IR1.out.hca IR1.out.hcb).mono ?_
    rw [HOK.out]
    rintro e w_2 ⟨v, rfl, hv, hb_2⟩
    have hv0 := hv
    obtain ⟨A3, l3, c3, rfl, _⟩ := hv0
    clear cR0 cR1 cR2 cR3
    have B2 := Lib.hid (B1.out.trans (hb_2.mono B1.out.size))
    have F2 := Lib.hid (F1.out.next hb_2)
    have KR2 := Lib.hid (KR1.out.next hb_2)
    have IR2 := Lib.hid (IR1.out.next hb_2)
    have D2 := Lib.hid (hv)
    clear hb_2 hv
    have cR0 := KR2.out.cell 0
    have cR1 := KR2.out.cell 1
    have cR2 := KR2.out.cell 2
    have cR3 := KR2.out.cell 3
    simp at cR0 cR1 cR2 cR3
    go_wp2_with (fail)
    refine (spde_any N O (A1) (A2) (FA) q ca q cb nF cF X Y (L) _ IR2.out.hX IR2.out.hY F2.out.at_.1 IR2.out.hla IR2.out.hlb (by have := F2.out.at_.2.2; omega) IR2.out.hca IR2.out.hcb).mono ?_
    rw [HOK.out]
    rintro e w_3 ⟨v, rfl, hv, hb_3⟩
    have hv0 := hv
    obtain ⟨A4, l4, c4, rfl, _⟩ := hv0
    clear cR0 cR1 cR2 cR3
    have B3 := Lib.hid (B2.out.trans (hb_3.mono B2.out.size))
    have F3 := Lib.hid (F2.out.next hb_3)
    have KR3 := Lib.hid (KR2.out.next hb_3)
    have IR3 := Lib.hid (IR2.out.next hb_3)
    have D3 := Lib.hid (D2.out.next hb_3)
    have SD3 := Lib.hid (hv)
    clear hb_3 hv
    go_wp2_with (fail)
    refine (frSame_any (A3) (A4) l3 l4 c3 c4 _ _ _ _ _ D3.out.at_.1 SD3.out.at_.1 (by have := D3.out.at_.2.2; omega) (by have := SD3.out.at_.2.2; omega)).mono ?_
    rw [eqL_own_DE]
    rintro e w_4 ⟨rfl, hb_4⟩
    have B4 := Lib.hid (B3.out.trans (hb_4.mono B3.out.size))
    have F4 := Lib.hid (F3.out.next hb_4)
    have KR4 := Lib.hid (KR3.out.next hb_4)
    have IR4 := Lib.hid (IR3.out.next hb_4)
    have D4 := Lib.hid (D3.out.next hb_4)
    have SD4 := Lib.hid (SD3.out.next hb_4)
    clear hb_4
    go_wp2_with (fail)
    refine (frSame_any (A3) (A4) l3 l4 c3 c4 _ _ _ _ _ D4.out.at_.1 SD4.out.at_.1 (by have := D4.out.at_.2.2; omega) (by have := SD4.out.at_.2.2; omega)).mono ?_
    rw [eqL_own_DE]
    rintro e w_5 ⟨rfl, hb_5⟩
    have B5 := Lib.hid (B4.out.trans (hb_5.mono B4.out.size))
    have F5 := Lib.hid (F4.out.next hb_5)
    have KR5 := Lib.hid (KR4.out.next hb_5)
    have IR5 := Lib.hid (IR4.out.next hb_5)
    have D5 := Lib.hid (D4.out.next hb_5)
    have SD5 := Lib.hid (SD4.out.next hb_5)
    clear hb_5
    go_wp2_with (fail)
    go_ret
    exact ⟨rfl, B5.out⟩
  · skip
    obtain ⟨m, e, b1, o1, b2, o2, rfl, rfl, rfl, rfl, hr, _, lX, lY, gX, gY⟩ := valid_data (pol_data hok).1 IR1.out.hX IR1.out.hY IR1.out.hca IR1.out.hcb
    have hm := hr.hm
    have hm' := hr.hm'
    have HOK := Lib.hid hok
    clear hok hr lX lY gX gY
    have cR0 := KR1.out.cell 0
    have cR1 := KR1.out.cell 1
    have cR2 := KR1.out.cell 2
    have cR3 := KR1.out.cell 3
    simp at cR0 cR1 cR2 cR3
    go_wp2_with (fail)
    refine (pde_any m e (some ⟨b1, o1, none⟩) (some ⟨b2, o2, none⟩) (FA) q ca q cb nF cF X Y (L) _ IR1.out.hX IR1.out.hY F1.out.at_.1 IR1.out.hla IR1.out.hlb (by have := F1.out.at_.2.2; omega) IR1.out.hca IR1.out.hcb).mono ?_
    rw [HOK.out]
    rintro e w_2 ⟨v, rfl, hv, hb_2⟩
    have hv0 := hv
    obtain ⟨A5, l5, c5, rfl, _⟩ := hv0
    clear cR0 cR1 cR2 cR3
    have B2 := Lib.hid (B1.out.trans (hb_2.mono B1.out.size))
    have F2 := Lib.hid (F1.out.next hb_2)
    have KR2 := Lib.hid (KR1.out.next hb_2)
    have IR2 := Lib.hid (IR1.out.next hb_2)
    have D2 := Lib.hid (hv)
    clear hb_2 hv
    have cR0 := KR2.out.cell 0
    have cR1 := KR2.out.cell 1
    have cR2 := KR2.out.cell 2
    have cR3 := KR2.out.cell 3
    simp at cR0 cR1 cR2 cR3
    go_wp2_with (fail)
    refine (spde_any m e (some ⟨b1, o1, none⟩) (some ⟨b2, o2, none⟩) (FA) q ca q cb nF cF X Y (L) _ IR2.out.hX IR2.out.hY F2.out.at_.1 IR2.out.hla IR2.out.hlb (by have := F2.out.at_.2.2; omega) IR2.out.hca IR2.out.hcb).mono ?_
    rw [HOK.out]
    rintro e w_3 ⟨v, rfl, hv, hb_3⟩
    have hv0 := hv
    obtain ⟨A6, l6, c6, rfl, _⟩ := hv0
    clear cR0 cR1 cR2 cR3
    have B3 := Lib.hid (B2.out.trans (hb_3.mono B2.out.size))
    have F3 := Lib.hid (F2.out.next hb_3)
    have KR3 := Lib.hid (KR2.out.next hb_3)
    have IR3 := Lib.hid (IR2.out.next hb_3)
    have D3 := Lib.hid (D2.out.next hb_3)
    have SD3 := Lib.hid (hv)
    clear hb_3 hv
    go_wp2_with (fail)
    refine (frSame_any (A5) (A6) l5 l6 c5 c6 _ _ _ _ _ D3.out.at_.1 SD3.out.at_.1 (by have := D3.out.at_.2.2; omega) (by have := SD3.out.at_.2.2; omega)).mono ?_
    rw [eqL_own_DE]
    rintro e w_4 ⟨rfl, hb_4⟩
    have B4 := Lib.hid (B3.out.trans (hb_4.mono B3.out.size))
    have F4 := Lib.hid (F3.out.next hb_4)
    have KR4 := Lib.hid (KR3.out.next hb_4)
    have IR4 := Lib.hid (IR3.out.next hb_4)
    have D4 := Lib.hid (D3.out.next hb_4)
    have SD4 := Lib.hid (SD3.out.next hb_4)
    clear hb_4
    go_upto_region 9 with (fail)
    obtain ⟨w_5, hV⟩ : ∃ V, w_4.alloc (.cells #[] 3) = V := ⟨_, rfl⟩
    have hb_5 : Below w_4.heap.size w_4 w_5 := by subst hV; exact (Below.refl _ _).alloc (Nat.le_refl _) _
    have hlit : SliceOut 0 w_5 (.slice (some ⟨w_4.heap.size, 0, none⟩) 0 0) [] := by subst hV; exact SliceOut.of_row (n := 0) (own_lit_K (w := w_4) (base := 0) (e := 3) [] (Nat.zero_le _) (by unfold maxLen; simp)) rfl (by omega)
    rw [hV]
    obtain ⟨g_5, hg_5⟩ : ∃ g, w_4.heap.size = g := ⟨_, rfl⟩
    rw [hg_5] at hlit ⊢
    clear hV hg_5
    have B5 := Lib.hid (B4.out.trans (hb_5.mono B4.out.size))
    have F5 := Lib.hid (F4.out.next hb_5)
    have KR5 := Lib.hid (KR4.out.next hb_5)
    have IR5 := Lib.hid (IR4.out.next hb_5)
    have D5 := Lib.hid (D4.out.next hb_5)
    have SD5 := Lib.hid (SD4.out.next hb_5)
    have G5 := Lib.hid (hlit)
    clear hb_5 hlit
    by_cases hm1 : 1 < m
    · have t1 : decide ((m : Int) > 1) = true := by simp; omega
      have n3 : ¬ m = 0 := by omega
      obtain ⟨k, hk⟩ : ∃ k : Nat, n' % m = k := ⟨_, rfl⟩
      have hkm : k < m := by rw [← hk]; exact Nat.mod_lt _ (by omega)
      have f2 : (n' : Int) % m = (k : Int) := by rw [← hk]; simp
      have f3 : (n' : Int).tmod m = (k : Int) := by rw [← f2]; exact Int.tmod_eq_emod_of_nonneg (by omega)
      have eG : ([(k : Int), (e : Int)] : List Int) = if 1 < m then [(k : Int), (e : Int)] else [] := by rw [if_pos hm1]
      have cR0 := KR5.out.cell 0
      have cR1 := KR5.out.cell 1
      have cR2 := KR5.out.cell 2
      have cR3 := KR5.out.cell 3
      simp at cR0 cR1 cR2 cR3
      go_wp2_with (fail)
      refine wp_region_makers 7 (fun _ => false) (fun _ _ _ => True) (fun _ _ => True) (fun _ => undef) probe (by kernel_rfl) (by kernel_rfl) (fun _ _ _ _ _ _ => trivial) (fun _ _ _ _ _ => trivial) (fun _ _ => trivial) ?_
      clear cR0 cR1 cR2 cR3
      intro w_6 hb_6 vs _
      have cV : ∃ x, extC w_6 x := ⟨w_6, extC_of (Below.refl _ _)⟩
      have B6 := Lib.hid (B5.out.trans (hb_6.mono B5.out.size))
      have F6 := Lib.hid (F5.out.next hb_6)
      have KR6 := Lib.hid (KR5.out.next hb_6)
      have IR6 := Lib.hid (IR5.out.next hb_6)
      have D6 := Lib.hid (D5.out.next hb_6)
      have SD6 := Lib.hid (SD5.out.next hb_6)
      clear hb_6
      have cR0 := KR6.out.cell 0
      have cR1 := KR6.out.cell 1
      have cR2 := KR6.out.cell 2
      have cR3 := KR6.out.cell 3
      simp at cR0 cR1 cR2 cR3
      simp only [List.take_succ_cons, List.take_zero, List.drop_succ_cons, List.drop_zero]
      refine wpV_quiet cV 7 0 _ _ (by decide) (by decide) ?_
      simp only [List.take_succ_cons, List.take_zero, List.drop_succ_cons, List.drop_zero]
      repeat (go_big_quiet_step (fail))
      refine wpQuiet_nil ?_
      refine wpV_nil ?_
      clear cR0 cR1 cR2 cR3
      intro w_7 hb_7 _ _
      have B7 := Lib.hid (B5.out.trans (hb_7.mono B5.out.size))
      have F7 := Lib.hid (F5.out.next hb_7)
      have KR7 := Lib.hid (KR5.out.next hb_7)
      have IR7 := Lib.hid (IR5.out.next hb_7)
      have D7 := Lib.hid (D5.out.next hb_7)
      have SD7 := Lib.hid (SD5.out.next hb_7)
      clear hb_7
      go_upto_region 11 with (fail)
      obtain ⟨w_8, hV⟩ : ∃ V, w_7.alloc (.cells #[.int .i64 (k : Int), .int .i64 (e : Int)] 3) = V := ⟨_, rfl⟩
      have hb_8 : Below w_7.heap.size w_7 w_8 := by subst hV; exact (Below.refl _ _).alloc (Nat.le_refl _) _
      have hlit : SliceOut 0 w_8 (.slice (some ⟨w_7.heap.size, 0, none⟩) 2 2) [(k : Int), (e : Int)] := by subst hV; exact SliceOut.of_row (n := 2) (own_lit_K (w := w_7) (base := 0) (e := 3) [.int .i64 (k : Int), .int .i64 (e : Int)] (Nat.zero_le _) (by unfold maxLen; simp)) rfl (by omega)
      rw [hV]
      obtain ⟨g_8, hg_8⟩ : ∃ g, w_7.heap.size = g := ⟨_, rfl⟩
      rw [hg_8] at hlit ⊢
      clear hV hg_8
      have B8 := Lib.hid (B7.out.trans (hb_8.mono B7.out.size))
      have F8 := Lib.hid (F7.out.next hb_8)
      have KR8 := Lib.hid (KR7.out.next hb_8)
      have IR8 := Lib.hid (IR7.out.next hb_8)
      have D8 := Lib.hid (D7.out.next hb_8)
      have SD8 := Lib.hid (SD7.out.next hb_8)
      have G8 := Lib.hid (hlit)
      clear hb_8 hlit
      have cR0 := KR8.out.cell 0
      have cR1 := KR8.out.cell 1
      have cR2 := KR8.out.cell 2
      have cR3 := KR8.out.cell 3
      simp at cR0 cR1 cR2 cR3
      go_wp2_with (fail)
      clear cR0 cR1 cR2 cR3
      obtain ⟨h1, h2, h3, h4, h5, h6, h7, h8, h9, h10, h11, h12, h13⟩ := derive_law HOK.out hkm eG hm'
      have HD1 := Lib.hid h1
      have HD2 := Lib.hid h2
      have HD3 := Lib.hid h3
      have HD4 := Lib.hid h4
      have HD5 := Lib.hid h5
      have HD6 := Lib.hid h6
      have HD7 := Lib.hid h7
      have HD8 := Lib.hid h8
      have HD9 := Lib.hid h9
      have HD10 := Lib.hid h10
      have HD11 := Lib.hid h11
      have HD12 := Lib.hid h12
      have HD13 := Lib.hid h13
      clear eG h1 h2 h3 h4 h5 h6 h7 h8 h9 h10 h11 h12 h13
      refine (pde_any m e (some ⟨b1, o1, none⟩) (some ⟨b2, o2, none⟩) (some ⟨g_8, 0, none⟩) q ca q cb 2 2 X Y ([(k : Int), (e : Int)]) _ IR8.out.hX IR8.out.hY G8.out.at_.1 IR8.out.hla IR8.out.hlb (by have := G8.out.at_.2.2; omega) IR8.out.hca IR8.out.hcb).mono ?_
      rw [HD3.out]
      rintro e w_9 ⟨v, rfl, hv, hb_9⟩
      have hv0 := hv
      obtain ⟨A7, l7, c7, rfl, _⟩ := hv0
      have B9 := Lib.hid (B8.out.trans (hb_9.mono B8.out.size))
      have F9 := Lib.hid (F8.out.next hb_9)
      have KR9 := Lib.hid (KR8.out.next hb_9)
      have IR9 := Lib.hid (IR8.out.next hb_9)
      have D9 := Lib.hid (D8.out.next hb_9)
      have SD9 := Lib.hid (SD8.out.next hb_9)
      have G9 := Lib.hid (G8.out.next hb_9)
      have DG9 := Lib.hid (hv)
      clear hb_9 hv
      obtain ⟨pk, hpk⟩ : ∃ x, pmuB m e X Y L [(k : Int), (e : Int)] = x := ⟨_, rfl⟩
      have HPK := Lib.hid hpk
      clear hpk
      have cR0 := KR9.out.cell 0
      have cR1 := KR9.out.cell 1
      have cR2 := KR9.out.cell 2
      have cR3 := KR9.out.cell 3
      simp at cR0 cR1 cR2 cR3
      go_wp2_with (fail)
      refine (pmu_any m e (some ⟨b1, o1, none⟩) (some ⟨b2, o2, none⟩) (FA) (some ⟨g_8, 0, none⟩) q ca q cb nF cF 2 2 X Y (L) ([(k : Int), (e : Int)]) _ IR9.out.hX IR9.out.hY F9.out.at_.1 G9.out.at_.1 IR9.out.hla IR9.out.hlb (by have := F9.out.at_.2.2; omega) (by have := G9.out.at_.2.2; omega) IR9.out.hca IR9.out.hcb).mono ?_
      rw [HPK.out]
      rintro e w_10 ⟨v, rfl, hv, hb_10⟩
      have hv0 := hv
      obtain ⟨A8, l8, c8, rfl, _⟩ := hv0
      clear cR0 cR1 cR2 cR3
      have B10 := Lib.hid (B9.out.trans (hb_10.mono B9.out.size))
      have F10 := Lib.hid (F9.out.next hb_10)
      have KR10 := Lib.hid (KR9.out.next hb_10)
      have IR10 := Lib.hid (IR9.out.next hb_10)
      have D10 := Lib.hid (D9.out.next hb_10)
      have SD10 := Lib.hid (SD9.out.next hb_10)
      have G10 := Lib.hid (G9.out.next hb_10)
      have DG10 := Lib.hid (DG9.out.next hb_10)
      have P10 := Lib.hid (hv)
      clear hb_10 hv
      have cR0 := KR10.out.cell 0
      have cR1 := KR10.out.cell 1
      have cR2 := KR10.out.cell 2
      have cR3 := KR10.out.cell 3
      simp at cR0 cR1 cR2 cR3
      go_wp2_with (fail)
      refine (pde_any m e (some ⟨b1, o1, none⟩) (some ⟨b2, o2, none⟩) (A8) q ca q cb l8 c8 X Y (pmuL m e X Y L [(k : Int), (e : Int)]) _ IR10.out.hX IR10.out.hY P10.out.at_.1 IR10.out.hla IR10.out.hlb (by have := P10.out.at_.2.2; omega) IR10.out.hca IR10.out.hcb).mono ?_
      rw [HD8.out]
      rintro e w_11 ⟨v, rfl, hv, hb_11⟩
      have hv0 := hv
      obtain ⟨A9, l9, c9, rfl, _⟩ := hv0
      clear cR0 cR1 cR2 cR3
      have B11 := Lib.hid (B10.out.trans (hb_11.mono B10.out.size))
      have F11 := Lib.hid (F10.out.next hb_11)
      have KR11 := Lib.hid (KR10.out.next hb_11)
      have IR11 := Lib.hid (IR10.out.next hb_11)
      have D11 := Lib.hid (D10.out.next hb_11)
      have SD11 := Lib.hid (SD10.out.next hb_11)
      have G11 := Lib.hid (G10.out.next hb_11)
      have DG11 := Lib.hid (DG10.out.next hb_11)
      have P11 := Lib.hid (P10.out.next hb_11)
      have DP11 := Lib.hid (hv)
      clear hb_11 hv
      have cR0 := KR11.out.cell 0
      have cR1 := KR11.out.cell 1
      have cR2 := KR11.out.cell 2
      have cR3 := KR11.out.cell 3
      simp at cR0 cR1 cR2 cR3
      go_wp2_with (fail)
      refine (pmu_any m e (some ⟨b1, o1, none⟩) (some ⟨b2, o2, none⟩) (A5) (some ⟨g_8, 0, none⟩) q ca q cb l5 c5 2 2 X Y (pdeL m e X Y L) ([(k : Int), (e : Int)]) _ IR11.out.hX IR11.out.hY D11.out.at_.1 G11.out.at_.1 IR11.out.hla IR11.out.hlb (by have := D11.out.at_.2.2; omega) (by have := G11.out.at_.2.2; omega) IR11.out.hca IR11.out.hcb).mono ?_
      rw [HD5.out]
      rintro e w_12 ⟨v, rfl, hv, hb_12⟩
      have hv0 := hv
      obtain ⟨A10, l10, c10, rfl, _⟩ := hv0
      clear cR0 cR1 cR2 cR3
      have B12 := Lib.hid (B11.out.trans (hb_12.mono B11.out.size))
      have F12 := Lib.hid (F11.out.next hb_12)
      have KR12 := Lib.hid (KR11.out.next hb_12)
      have IR12 := Lib.hid (IR11.out.next hb_12)
      have D12 := Lib.hid (D11.out.next hb_12)
      have SD12 := Lib.hid (SD11.out.next hb_12)
      have G12 := Lib.hid (G11.out.next hb_12)
      have DG12 := Lib.hid (DG11.out.next hb_12)
      have P12 := Lib.hid (P11.out.next hb_12)
      have DP12 := Lib.hid (DP11.out.next hb_12)
      have QA12 := Lib.hid (hv)
      clear hb_12 hv
      have cR0 := KR12.out.cell 0
      have cR1 := KR12.out.cell 1
      have cR2 := KR12.out.cell 2
      have cR3 := KR12.out.cell 3
      simp at cR0 cR1 cR2 cR3
      go_wp2_with (fail)
      refine (pmu_any m e (some ⟨b1, o1, none⟩) (some ⟨b2, o2, none⟩) (FA) (A7) q ca q cb nF cF l7 c7 X Y (L) (pdeL m e X Y [(k : Int), (e : Int)]) _ IR12.out.hX IR12.out.hY F12.out.at_.1 DG12.out.at_.1 IR12.out.hla IR12.out.hlb (by have := F12.out.at_.2.2; omega) (by have := DG12.out.at_.2.2; omega) IR12.out.hca IR12.out.hcb).mono ?_
      rw [HD6.out]
      rintro e w_13 ⟨v, rfl, hv, hb_13⟩
      have hv0 := hv
      obtain ⟨A11, l11, c11, rfl, _⟩ := hv0
      clear cR0 cR1 cR2 cR3
      have B13 := Lib.hid (B12.out.trans (hb_13.mono B12.out.size))
      have F13 := Lib.hid (F12.out.next hb_13)
      have KR13 := Lib.hid (KR12.out.next hb_13)
      have IR13 := Lib.hid (IR12.out.next hb_13)
      have D13 := Lib.hid (D12.out.next hb_13)
      have SD13 := Lib.hid (SD12.out.next hb_13)
      have G13 := Lib.hid (G12.out.next hb_13)
      have DG13 := Lib.hid (DG12.out.next hb_13)
      have P13 := Lib.hid (P12.out.next hb_13)
      have DP13 := Lib.hid (DP12.out.next hb_13)
      have QA13 := Lib.hid (QA12.out.next hb_13)
      have QB13 := Lib.hid (hv)
      clear hb_13 hv
      have cR0 := KR13.out.cell 0
      have cR1 := KR13.out.cell 1
      have cR2 := KR13.out.cell 2
      have cR3 := KR13.out.cell 3
      simp at cR0 cR1 cR2 cR3
      go_wp2_with (fail)
      refine (pad_any m e (some ⟨b1, o1, none⟩) (some ⟨b2, o2, none⟩) (A10) (A11) q ca q cb l10 c10 l11 c11 X Y (pmuL m e X Y (pdeL m e X Y L) [(k : Int), (e : Int)]) (pmuL m e X Y L (pdeL m e X Y [(k : Int), (e : Int)])) _ IR13.out.hX IR13.out.hY QA13.out.at_.1 QB13.out.at_.1 IR13.out.hla IR13.out.hlb (by have := QA13.out.at_.2.2; omega) (by have := QB13.out.at_.2.2; omega) IR13.out.hca IR13.out.hcb).mono ?_
      rw [HD7.out]
      rintro e w_14 ⟨v, rfl, hv, hb_14⟩
      have hv0 := hv
      obtain ⟨A12, l12, c12, rfl, _⟩ := hv0
      clear cR0 cR1 cR2 cR3
      have B14 := Lib.hid (B13.out.trans (hb_14.mono B13.out.size))
      have F14 := Lib.hid (F13.out.next hb_14)
      have KR14 := Lib.hid (KR13.out.next hb_14)
      have IR14 := Lib.hid (IR13.out.next hb_14)
      have D14 := Lib.hid (D13.out.next hb_14)
      have SD14 := Lib.hid (SD13.out.next hb_14)
      have G14 := Lib.hid (G13.out.next hb_14)
      have DG14 := Lib.hid (DG13.out.next hb_14)
      have P14 := Lib.hid (P13.out.next hb_14)
      have DP14 := Lib.hid (DP13.out.next hb_14)
      have QA14 := Lib.hid (QA13.out.next hb_14)
      have QB14 := Lib.hid (QB13.out.next hb_14)
      have QS14 := Lib.hid (hv)
      clear hb_14 hv
      have cR0 := KR14.out.cell 0
      have cR1 := KR14.out.cell 1
      have cR2 := KR14.out.cell 2
      have cR3 := KR14.out.cell 3
      simp at cR0 cR1 cR2 cR3
      go_wp2_with (fail)
      refine (pad_any m e (some ⟨b1, o1, none⟩) (some ⟨b2, o2, none⟩) (FA) (FA) q ca q cb nF cF nF cF X Y (L) (L) _ IR14.out.hX IR14.out.hY F14.out.at_.1 F14.out.at_.1 IR14.out.hla IR14.out.hlb (by have := F14.out.at_.2.2; omega) (by have := F14.out.at_.2.2; omega) IR14.out.hca IR14.out.hcb).mono ?_
      rw [HD10.out]
      rintro e w_15 ⟨v, rfl, hv, hb_15⟩
      have hv0 := hv
      obtain ⟨A13, l13, c13, rfl, _⟩ := hv0
      clear cR0 cR1 cR2 cR3
      have B15 := Lib.hid (B14.out.trans (hb_15.mono B14.out.size))
      have F15 := Lib.hid (F14.out.next hb_15)
      have KR15 := Lib.hid (KR14.out.next hb_15)
      have IR15 := Lib.hid (IR14.out.next hb_15)
      have D15 := Lib.hid (D14.out.next hb_15)
      have SD15 := Lib.hid (SD14.out.next hb_15)
      have G15 := Lib.hid (G14.out.next hb_15)
      have DG15 := Lib.hid (DG14.out.next hb_15)
      have P15 := Lib.hid (P14.out.next hb_15)
      have DP15 := Lib.hid (DP14.out.next hb_15)
      have QA15 := Lib.hid (QA14.out.next hb_15)
      have QB15 := Lib.hid (QB14.out.next hb_15)
      have QS15 := Lib.hid (QS14.out.next hb_15)
      have T15 := Lib.hid (hv)
      clear hb_15 hv
      have cR0 := KR15.out.cell 0
      have cR1 := KR15.out.cell 1
      have cR2 := KR15.out.cell 2
      have cR3 := KR15.out.cell 3
      simp at cR0 cR1 cR2 cR3
      go_wp2_with (fail)
      refine (pde_any m e (some ⟨b1, o1, none⟩) (some ⟨b2, o2, none⟩) (A13) q ca q cb l13 c13 X Y (padL m e X Y L L) _ IR15.out.hX IR15.out.hY T15.out.at_.1 IR15.out.hla IR15.out.hlb (by have := T15.out.at_.2.2; omega) IR15.out.hca IR15.out.hcb).mono ?_
      rw [HD11.out]
      rw [HD13.out]
      rintro e w_16 ⟨v, rfl, hv, hb_16⟩
      have hv0 := hv
      obtain ⟨A14, l14, c14, rfl, _⟩ := hv0
      clear cR0 cR1 cR2 cR3
      have B16 := Lib.hid (B15.out.trans (hb_16.mono B15.out.size))
      have F16 := Lib.hid (F15.out.next hb_16)
      have KR16 := Lib.hid (KR15.out.next hb_16)
      have IR16 := Lib.hid (IR15.out.next hb_16)
      have D16 := Lib.hid (D15.out.next hb_16)
      have SD16 := Lib.hid (SD15.out.next hb_16)
      have G16 := Lib.hid (G15.out.next hb_16)
      have DG16 := Lib.hid (DG15.out.next hb_16)
      have P16 := Lib.hid (P15.out.next hb_16)
      have DP16 := Lib.hid (DP15.out.next hb_16)
      have QA16 := Lib.hid (QA15.out.next hb_16)
      have QB16 := Lib.hid (QB15.out.next hb_16)
      have QS16 := Lib.hid (QS15.out.next hb_16)
      have T16 := Lib.hid (T15.out.next hb_16)
      have DT16 := Lib.hid (hv)
      clear hb_16 hv
      have cR0 := KR16.out.cell 0
      have cR1 := KR16.out.cell 1
      have cR2 := KR16.out.cell 2
      have cR3 := KR16.out.cell 3
      simp at cR0 cR1 cR2 cR3
      go_wp2_with (fail)
      refine (pad_any m e (some ⟨b1, o1, none⟩) (some ⟨b2, o2, none⟩) (A5) (A5) q ca q cb l5 c5 l5 c5 X Y (pdeL m e X Y L) (pdeL m e X Y L) _ IR16.out.hX IR16.out.hY D16.out.at_.1 D16.out.at_.1 IR16.out.hla IR16.out.hlb (by have := D16.out.at_.2.2; omega) (by have := D16.out.at_.2.2; omega) IR16.out.hca IR16.out.hcb).mono ?_
      rw [HD12.out]
      rintro e w_17 ⟨v, rfl, hv, hb_17⟩
      have hv0 := hv
      obtain ⟨A15, l15, c15, rfl, _⟩ := hv0
      clear cR0 cR1 cR2 cR3
      have B17 := Lib.hid (B16.out.trans (hb_17.mono B16.out.size))
      have F17 := Lib.hid (F16.out.next hb_17)
      have KR17 := Lib.hid (KR16.out.next hb_17)
      have IR17 := Lib.hid (IR16.out.next hb_17)
      have D17 := Lib.hid (D16.out.next hb_17)
      have SD17 := Lib.hid (SD16.out.next hb_17)
      have G17 := Lib.hid (G16.out.next hb_17)
      have DG17 := Lib.hid (DG16.out.next hb_17)
      have P17 := Lib.hid (P16.out.next hb_17)
      have DP17 := Lib.hid (DP16.out.next hb_17)
      have QA17 := Lib.hid (QA16.out.next hb_17)
      have QB17 := Lib.hid (QB16.out.next hb_17)
      have QS17 := Lib.hid (QS16.out.next hb_17)
      have T17 := Lib.hid (T16.out.next hb_17)
      have DT17 := Lib.hid (DT16.out.next hb_17)
      have DD17 := Lib.hid (hv)
      clear hb_17 hv
      have hnD : l5 ≤ nF - 1 := by have h := HD2.out; rw [show (pdeL m e X Y L).length = l5 from D17.out.at_.1.1, show L.length = nF from F17.out.at_.1.1] at h; exact h
      have hnF : nF ≤ 17 := by rw [← show L.length = nF from F17.out.at_.1.1]; exact hfl
      go_wp2_with (fail)
      refine (frSame_any (A14) (A15) l14 l15 c14 c15 _ _ _ _ _ DT17.out.at_.1 DD17.out.at_.1 (by have := DT17.out.at_.2.2; omega) (by have := DD17.out.at_.2.2; omega)).mono ?_
      rw [eqL_own_DE]
      rintro e w_18 ⟨rfl, hb_18⟩
      have B18 := Lib.hid (B17.out.trans (hb_18.mono B17.out.size))
      have F18 := Lib.hid (F17.out.next hb_18)
      have KR18 := Lib.hid (KR17.out.next hb_18)
      have IR18 := Lib.hid (IR17.out.next hb_18)
      have D18 := Lib.hid (D17.out.next hb_18)
      have SD18 := Lib.hid (SD17.out.next hb_18)
      have G18 := Lib.hid (G17.out.next hb_18)
      have DG18 := Lib.hid (DG17.out.next hb_18)
      have P18 := Lib.hid (P17.out.next hb_18)
      have DP18 := Lib.hid (DP17.out.next hb_18)
      have QA18 := Lib.hid (QA17.out.next hb_18)
      have QB18 := Lib.hid (QB17.out.next hb_18)
      have QS18 := Lib.hid (QS17.out.next hb_18)
      have T18 := Lib.hid (T17.out.next hb_18)
      have DT18 := Lib.hid (DT17.out.next hb_18)
      have DD18 := Lib.hid (DD17.out.next hb_18)
      clear hb_18
      have HND := Lib.hid hnD
      clear hnD
      cases hpv : pk
      · have HPV := Lib.hid (show pmuB m e X Y L [(k : Int), (e : Int)] = false by rw [HPK.out, hpv])
        clear hpv
        have hnD := HND.out
        by_cases hf0 : nF = 0
        · have hd0 : l5 = 0 := by omega
          subst hf0
          rw [hd0]
          go_wp2_with (fail)
          go_ret
          exact ⟨rfl, B18.out⟩
        · obtain ⟨j, hj⟩ : ∃ j, nF = j + 1 := ⟨nF - 1, by omega⟩
          have hdj : decide (l5 ≤ j) = true := decide_eq_true (by omega)
          go_wp2_with (fail)
          go_ret
          exact ⟨rfl, B18.out⟩
      · have HPV := Lib.hid (show pmuB m e X Y L [(k : Int), (e : Int)] = true by rw [HPK.out, hpv])
        clear hpv
        go_wp2_with (fail)
        refine (frSame_any (A9) (A12) l9 l12 c9 c12 _ _ _ _ _ DP18.out.at_.1 QS18.out.at_.1 (by have := DP18.out.at_.2.2; omega) (by have := QS18.out.at_.2.2; omega)).mono ?_
        rw [HD9.out HPV.out, eqL_own_DE]
        rintro e w_19 ⟨rfl, hb_19⟩
        have B19 := Lib.hid (B18.out.trans (hb_19.mono B18.out.size))
        have F19 := Lib.hid (F18.out.next hb_19)
        have KR19 := Lib.hid (KR18.out.next hb_19)
        have IR19 := Lib.hid (IR18.out.next hb_19)
        have D19 := Lib.hid (D18.out.next hb_19)
        have SD19 := Lib.hid (SD18.out.next hb_19)
        have G19 := Lib.hid (G18.out.next hb_19)
        have DG19 := Lib.hid (DG18.out.next hb_19)
        have P19 := Lib.hid (P18.out.next hb_19)
        have DP19 := Lib.hid (DP18.out.next hb_19)
        have QA19 := Lib.hid (QA18.out.next hb_19)
        have QB19 := Lib.hid (QB18.out.next hb_19)
        have QS19 := Lib.hid (QS18.out.next hb_19)
        have T19 := Lib.hid (T18.out.next hb_19)
        have DT19 := Lib.hid (DT18.out.next hb_19)
        have DD19 := Lib.hid (DD18.out.next hb_19)
        clear hb_19
        have hnD := HND.out
        by_cases hf0 : nF = 0
        · have hd0 : l5 = 0 := by omega
          subst hf0
          rw [hd0]
          go_wp2_with (fail)
          go_ret
          exact ⟨rfl, B19.out⟩
        · obtain ⟨j, hj⟩ : ∃ j, nF = j + 1 := ⟨nF - 1, by omega⟩
          have hdj : decide (l5 ≤ j) = true := decide_eq_true (by omega)
          go_wp2_with (fail)
          go_ret
          exact ⟨rfl, B19.out⟩
    · have t1 : decide ((m : Int) > 1) = false := by simp; omega
      have hkm : 0 < m := by omega
      have eG : ([] : List Int) = if 1 < m then [((0 : Nat) : Int), (e : Int)] else [] := by rw [if_neg hm1]
      have cR0 := KR5.out.cell 0
      have cR1 := KR5.out.cell 1
      have cR2 := KR5.out.cell 2
      have cR3 := KR5.out.cell 3
      simp at cR0 cR1 cR2 cR3
      go_wp2_with (fail)
      clear cR0 cR1 cR2 cR3
      obtain ⟨h1, h2, h3, h4, h5, h6, h7, h8, h9, h10, h11, h12, h13⟩ := derive_law HOK.out hkm eG hm'
      have HD1 := Lib.hid h1
      have HD2 := Lib.hid h2
      have HD3 := Lib.hid h3
      have HD4 := Lib.hid h4
      have HD5 := Lib.hid h5
      have HD6 := Lib.hid h6
      have HD7 := Lib.hid h7
      have HD8 := Lib.hid h8
      have HD9 := Lib.hid h9
      have HD10 := Lib.hid h10
      have HD11 := Lib.hid h11
      have HD12 := Lib.hid h12
      have HD13 := Lib.hid h13
      clear eG h1 h2 h3 h4 h5 h6 h7 h8 h9 h10 h11 h12 h13
      refine (pde_any m e (some ⟨b1, o1, none⟩) (some ⟨b2, o2, none⟩) (some ⟨g_5, 0, none⟩) q ca q cb 0 0 X Y (([] : List Int)) _ IR5.out.hX IR5.out.hY G5.out.at_.1 IR5.out.hla IR5.out.hlb (by have := G5.out.at_.2.2; omega) IR5.out.hca IR5.out.hcb).mono ?_
      rw [HD3.out]
      rintro e w_6 ⟨v, rfl, hv, hb_6⟩
      have hv0 := hv
      obtain ⟨A16, l16, c16, rfl, _⟩ := hv0
      have B6 := Lib.hid (B5.out.trans (hb_6.mono B5.out.size))
      have F6 := Lib.hid (F5.out.next hb_6)
      have KR6 := Lib.hid (KR5.out.next hb_6)
      have IR6 := Lib.hid (IR5.out.next hb_6)
      have D6 := Lib.hid (D5.out.next hb_6)
      have SD6 := Lib.hid (SD5.out.next hb_6)
      have G6 := Lib.hid (G5.out.next hb_6)
      have DG6 := Lib.hid (hv)
      clear hb_6 hv
      obtain ⟨pk, hpk⟩ : ∃ x, pmuB m e X Y L ([] : List Int) = x := ⟨_, rfl⟩
      have HPK := Lib.hid hpk
      clear hpk
      have cR0 := KR6.out.cell 0
      have cR1 := KR6.out.cell 1
      have cR2 := KR6.out.cell 2
      have cR3 := KR6.out.cell 3
      simp at cR0 cR1 cR2 cR3
      go_wp2_with (fail)
      refine (pmu_any m e (some ⟨b1, o1, none⟩) (some ⟨b2, o2, none⟩) (FA) (some ⟨g_5, 0, none⟩) q ca q cb nF cF 0 0 X Y (L) (([] : List Int)) _ IR6.out.hX IR6.out.hY F6.out.at_.1 G6.out.at_.1 IR6.out.hla IR6.out.hlb (by have := F6.out.at_.2.2; omega) (by have := G6.out.at_.2.2; omega) IR6.out.hca IR6.out.hcb).mono ?_
      rw [HPK.out]
      rintro e w_7 ⟨v, rfl, hv, hb_7⟩
      have hv0 := hv
      obtain ⟨A17, l17, c17, rfl, _⟩ := hv0
      clear cR0 cR1 cR2 cR3
      have B7 := Lib.hid (B6.out.trans (hb_7.mono B6.out.size))
      have F7 := Lib.hid (F6.out.next hb_7)
      have KR7 := Lib.hid (KR6.out.next hb_7)
      have IR7 := Lib.hid (IR6.out.next hb_7)
      have D7 := Lib.hid (D6.out.next hb_7)
      have SD7 := Lib.hid (SD6.out.next hb_7)
      have G7 := Lib.hid (G6.out.next hb_7)
      have DG7 := Lib.hid (DG6.out.next hb_7)
      have P7 := Lib.hid (hv)
      clear hb_7 hv
      have cR0 := KR7.out.cell 0
      have cR1 := KR7.out.cell 1
      have cR2 := KR7.out.cell 2
      have cR3 := KR7.out.cell 3
      simp at cR0 cR1 cR2 cR3
      go_wp2_with (fail)
      refine (pde_any m e (some ⟨b1, o1, none⟩) (some ⟨b2, o2, none⟩) (A17) q ca q cb l17 c17 X Y (pmuL m e X Y L ([] : List Int)) _ IR7.out.hX IR7.out.hY P7.out.at_.1 IR7.out.hla IR7.out.hlb (by have := P7.out.at_.2.2; omega) IR7.out.hca IR7.out.hcb).mono ?_
      rw [HD8.out]
      rintro e w_8 ⟨v, rfl, hv, hb_8⟩
      have hv0 := hv
      obtain ⟨A18, l18, c18, rfl, _⟩ := hv0
      clear cR0 cR1 cR2 cR3
      have B8 := Lib.hid (B7.out.trans (hb_8.mono B7.out.size))
      have F8 := Lib.hid (F7.out.next hb_8)
      have KR8 := Lib.hid (KR7.out.next hb_8)
      have IR8 := Lib.hid (IR7.out.next hb_8)
      have D8 := Lib.hid (D7.out.next hb_8)
      have SD8 := Lib.hid (SD7.out.next hb_8)
      have G8 := Lib.hid (G7.out.next hb_8)
      have DG8 := Lib.hid (DG7.out.next hb_8)
      have P8 := Lib.hid (P7.out.next hb_8)
      have DP8 := Lib.hid (hv)
      clear hb_8 hv
      have cR0 := KR8.out.cell 0
      have cR1 := KR8.out.cell 1
      have cR2 := KR8.out.cell 2
      have cR3 := KR8.out.cell 3
      simp at cR0 cR1 cR2 cR3
      go_wp2_with (fail)
      refine (pmu_any m e (some ⟨b1, o1, none⟩) (some ⟨b2, o2, none⟩) (A5) (some ⟨g_5, 0, none⟩) q ca q cb l5 c5 0 0 X Y (pdeL m e X Y L) (([] : List Int)) _ IR8.out.hX IR8.out.hY D8.out.at_.1 G8.out.at_.1 IR8.out.hla IR8.out.hlb (by have := D8.out.at_.2.2; omega) (by have := G8.out.at_.2.2; omega) IR8.out.hca IR8.out.hcb).mono ?_
      rw [HD5.out]
      rintro e w_9 ⟨v, rfl, hv, hb_9⟩
      have hv0 := hv
      obtain ⟨A19, l19, c19, rfl, _⟩ := hv0
      clear cR0 cR1 cR2 cR3
      have B9 := Lib.hid (B8.out.trans (hb_9.mono B8.out.size))
      have F9 := Lib.hid (F8.out.next hb_9)
      have KR9 := Lib.hid (KR8.out.next hb_9)
      have IR9 := Lib.hid (IR8.out.next hb_9)
      have D9 := Lib.hid (D8.out.next hb_9)
      have SD9 := Lib.hid (SD8.out.next hb_9)
      have G9 := Lib.hid (G8.out.next hb_9)
      have DG9 := Lib.hid (DG8.out.next hb_9)
      have P9 := Lib.hid (P8.out.next hb_9)
      have DP9 := Lib.hid (DP8.out.next hb_9)
      have QA9 := Lib.hid (hv)
      clear hb_9 hv
      have cR0 := KR9.out.cell 0
      have cR1 := KR9.out.cell 1
      have cR2 := KR9.out.cell 2
      have cR3 := KR9.out.cell 3
      simp at cR0 cR1 cR2 cR3
      go_wp2_with (fail)
      refine (pmu_any m e (some ⟨b1, o1, none⟩) (some ⟨b2, o2, none⟩) (FA) (A16) q ca q cb nF cF l16 c16 X Y (L) (pdeL m e X Y ([] : List Int)) _ IR9.out.hX IR9.out.hY F9.out.at_.1 DG9.out.at_.1 IR9.out.hla IR9.out.hlb (by have := F9.out.at_.2.2; omega) (by have := DG9.out.at_.2.2; omega) IR9.out.hca IR9.out.hcb).mono ?_
      rw [HD6.out]
      rintro e w_10 ⟨v, rfl, hv, hb_10⟩
      have hv0 := hv
      obtain ⟨A20, l20, c20, rfl, _⟩ := hv0
      clear cR0 cR1 cR2 cR3
      have B10 := Lib.hid (B9.out.trans (hb_10.mono B9.out.size))
      have F10 := Lib.hid (F9.out.next hb_10)
      have KR10 := Lib.hid (KR9.out.next hb_10)
      have IR10 := Lib.hid (IR9.out.next hb_10)
      have D10 := Lib.hid (D9.out.next hb_10)
      have SD10 := Lib.hid (SD9.out.next hb_10)
      have G10 := Lib.hid (G9.out.next hb_10)
      have DG10 := Lib.hid (DG9.out.next hb_10)
      have P10 := Lib.hid (P9.out.next hb_10)
      have DP10 := Lib.hid (DP9.out.next hb_10)
      have QA10 := Lib.hid (QA9.out.next hb_10)
      have QB10 := Lib.hid (hv)
      clear hb_10 hv
      have cR0 := KR10.out.cell 0
      have cR1 := KR10.out.cell 1
      have cR2 := KR10.out.cell 2
      have cR3 := KR10.out.cell 3
      simp at cR0 cR1 cR2 cR3
      go_wp2_with (fail)
      refine (pad_any m e (some ⟨b1, o1, none⟩) (some ⟨b2, o2, none⟩) (A19) (A20) q ca q cb l19 c19 l20 c20 X Y (pmuL m e X Y (pdeL m e X Y L) ([] : List Int)) (pmuL m e X Y L (pdeL m e X Y ([] : List Int))) _ IR10.out.hX IR10.out.hY QA10.out.at_.1 QB10.out.at_.1 IR10.out.hla IR10.out.hlb (by have := QA10.out.at_.2.2; omega) (by have := QB10.out.at_.2.2; omega) IR10.out.hca IR10.out.hcb).mono ?_
      rw [HD7.out]
      rintro e w_11 ⟨v, rfl, hv, hb_11⟩
      have hv0 := hv
      obtain ⟨A21, l21, c21, rfl, _⟩ := hv0
      clear cR0 cR1 cR2 cR3
      have B11 := Lib.hid (B10.out.trans (hb_11.mono B10.out.size))
      have F11 := Lib.hid (F10.out.next hb_11)
      have KR11 := Lib.hid (KR10.out.next hb_11)
      have IR11 := Lib.hid (IR10.out.next hb_11)
      have D11 := Lib.hid (D10.out.next hb_11)
      have SD11 := Lib.hid (SD10.out.next hb_11)
      have G11 := Lib.hid (G10.out.next hb_11)
      have DG11 := Lib.hid (DG10.out.next hb_11)
      have P11 := Lib.hid (P10.out.next hb_11)
      have DP11 := Lib.hid (DP10.out.next hb_11)
      have QA11 := Lib.hid (QA10.out.next hb_11)
      have QB11 := Lib.hid (QB10.out.next hb_11)
      have QS11 := Lib.hid (hv)
      clear hb_11 hv
      have cR0 := KR11.out.cell 0
      have cR1 := KR11.out.cell 1
      have cR2 := KR11.out.cell 2
      have cR3 := KR11.out.cell 3
      simp at cR0 cR1 cR2 cR3
      go_wp2_with (fail)
      refine (pad_any m e (some ⟨b1, o1, none⟩) (some ⟨b2, o2, none⟩) (FA) (FA) q ca q cb nF cF nF cF X Y (L) (L) _ IR11.out.hX IR11.out.hY F11.out.at_.1 F11.out.at_.1 IR11.out.hla IR11.out.hlb (by have := F11.out.at_.2.2; omega) (by have := F11.out.at_.2.2; omega) IR11.out.hca IR11.out.hcb).mono ?_
      rw [HD10.out]
      rintro e w_12 ⟨v, rfl, hv, hb_12⟩
      have hv0 := hv
      obtain ⟨A22, l22, c22, rfl, _⟩ := hv0
      clear cR0 cR1 cR2 cR3
      have B12 := Lib.hid (B11.out.trans (hb_12.mono B11.out.size))
      have F12 := Lib.hid (F11.out.next hb_12)
      have KR12 := Lib.hid (KR11.out.next hb_12)
      have IR12 := Lib.hid (IR11.out.next hb_12)
      have D12 := Lib.hid (D11.out.next hb_12)
      have SD12 := Lib.hid (SD11.out.next hb_12)
      have G12 := Lib.hid (G11.out.next hb_12)
      have DG12 := Lib.hid (DG11.out.next hb_12)
      have P12 := Lib.hid (P11.out.next hb_12)
      have DP12 := Lib.hid (DP11.out.next hb_12)
      have QA12 := Lib.hid (QA11.out.next hb_12)
      have QB12 := Lib.hid (QB11.out.next hb_12)
      have QS12 := Lib.hid (QS11.out.next hb_12)
      have T12 := Lib.hid (hv)
      clear hb_12 hv
      have cR0 := KR12.out.cell 0
      have cR1 := KR12.out.cell 1
      have cR2 := KR12.out.cell 2
      have cR3 := KR12.out.cell 3
      simp at cR0 cR1 cR2 cR3
      go_wp2_with (fail)
      refine (pde_any m e (some ⟨b1, o1, none⟩) (some ⟨b2, o2, none⟩) (A22) q ca q cb l22 c22 X Y (padL m e X Y L L) _ IR12.out.hX IR12.out.hY T12.out.at_.1 IR12.out.hla IR12.out.hlb (by have := T12.out.at_.2.2; omega) IR12.out.hca IR12.out.hcb).mono ?_
      rw [HD11.out]
      rw [HD13.out]
      rintro e w_13 ⟨v, rfl, hv, hb_13⟩
      have hv0 := hv
      obtain ⟨A23, l23, c23, rfl, _⟩ := hv0
      clear cR0 cR1 cR2 cR3
      have B13 := Lib.hid (B12.out.trans (hb_13.mono B12.out.size))
      have F13 := Lib.hid (F12.out.next hb_13)
      have KR13 := Lib.hid (KR12.out.next hb_13)
      have IR13 := Lib.hid (IR12.out.next hb_13)
      have D13 := Lib.hid (D12.out.next hb_13)
      have SD13 := Lib.hid (SD12.out.next hb_13)
      have G13 := Lib.hid (G12.out.next hb_13)
      have DG13 := Lib.hid (DG12.out.next hb_13)
      have P13 := Lib.hid (P12.out.next hb_13)
      have DP13 := Lib.hid (DP12.out.next hb_13)
      have QA13 := Lib.hid (QA12.out.next hb_13)
      have QB13 := Lib.hid (QB12.out.next hb_13)
      have QS13 := Lib.hid (QS12.out.next hb_13)
      have T13 := Lib.hid (T12.out.next hb_13)
      have DT13 := Lib.hid (hv)
      clear hb_13 hv
      have cR0 := KR13.out.cell 0
      have cR1 := KR13.out.cell 1
      have cR2 := KR13.out.cell 2
      have cR3 := KR13.out.cell 3
      simp at cR0 cR1 cR2 cR3
      go_wp2_with (fail)
      refine (pad_any m e (some ⟨b1, o1, none⟩) (some ⟨b2, o2, none⟩) (A5) (A5) q ca q cb l5 c5 l5 c5 X Y (pdeL m e X Y L) (pdeL m e X Y L) _ IR13.out.hX IR13.out.hY D13.out.at_.1 D13.out.at_.1 IR13.out.hla IR13.out.hlb (by have := D13.out.at_.2.2; omega) (by have := D13.out.at_.2.2; omega) IR13.out.hca IR13.out.hcb).mono ?_
      rw [HD12.out]
      rintro e w_14 ⟨v, rfl, hv, hb_14⟩
      have hv0 := hv
      obtain ⟨A24, l24, c24, rfl, _⟩ := hv0
      clear cR0 cR1 cR2 cR3
      have B14 := Lib.hid (B13.out.trans (hb_14.mono B13.out.size))
      have F14 := Lib.hid (F13.out.next hb_14)
      have KR14 := Lib.hid (KR13.out.next hb_14)
      have IR14 := Lib.hid (IR13.out.next hb_14)
      have D14 := Lib.hid (D13.out.next hb_14)
      have SD14 := Lib.hid (SD13.out.next hb_14)
      have G14 := Lib.hid (G13.out.next hb_14)
      have DG14 := Lib.hid (DG13.out.next hb_14)
      have P14 := Lib.hid (P13.out.next hb_14)
      have DP14 := Lib.hid (DP13.out.next hb_14)
      have QA14 := Lib.hid (QA13.out.next hb_14)
      have QB14 := Lib.hid (QB13.out.next hb_14)
      have QS14 := Lib.hid (QS13.out.next hb_14)
      have T14 := Lib.hid (T13.out.next hb_14)
      have DT14 := Lib.hid (DT13.out.next hb_14)
      have DD14 := Lib.hid (hv)
      clear hb_14 hv
      have hnD : l5 ≤ nF - 1 := by have h := HD2.out; rw [show (pdeL m e X Y L).length = l5 from D14.out.at_.1.1, show L.length = nF from F14.out.at_.1.1] at h; exact h
      have hnF : nF ≤ 17 := by rw [← show L.length = nF from F14.out.at_.1.1]; exact hfl
      go_wp2_with (fail)
      refine (frSame_any (A23) (A24) l23 l24 c23 c24 _ _ _ _ _ DT14.out.at_.1 DD14.out.at_.1 (by have := DT14.out.at_.2.2; omega) (by have := DD14.out.at_.2.2; omega)).mono ?_
      rw [eqL_own_DE]
      rintro e w_15 ⟨rfl, hb_15⟩
      have B15 := Lib.hid (B14.out.trans (hb_15.mono B14.out.size))
      have F15 := Lib.hid (F14.out.next hb_15)
      have KR15 := Lib.hid (KR14.out.next hb_15)
      have IR15 := Lib.hid (IR14.out.next hb_15)
      have D15 := Lib.hid (D14.out.next hb_15)
      have SD15 := Lib.hid (SD14.out.next hb_15)
      have G15 := Lib.hid (G14.out.next hb_15)
      have DG15 := Lib.hid (DG14.out.next hb_15)
      have P15 := Lib.hid (P14.out.next hb_15)
      have DP15 := Lib.hid (DP14.out.next hb_15)
      have QA15 := Lib.hid (QA14.out.next hb_15)
      have QB15 := Lib.hid (QB14.out.next hb_15)
      have QS15 := Lib.hid (QS14.out.next hb_15)
      have T15 := Lib.hid (T14.out.next hb_15)
      have DT15 := Lib.hid (DT14.out.next hb_15)
      have DD15 := Lib.hid (DD14.out.next hb_15)
      clear hb_15
      have HND := Lib.hid hnD
      clear hnD
      cases hpv : pk
      · have HPV := Lib.hid (show pmuB m e X Y L ([] : List Int) = false by rw [HPK.out, hpv])
        clear hpv
        have hnD := HND.out
        by_cases hf0 : nF = 0
        · have hd0 : l5 = 0 := by omega
          subst hf0
          rw [hd0]
          go_wp2_with (fail)
          go_ret
          exact ⟨rfl, B15.out⟩
        · obtain ⟨j, hj⟩ : ∃ j, nF = j + 1 := ⟨nF - 1, by omega⟩
          have hdj : decide (l5 ≤ j) = true := decide_eq_true (by omega)
          go_wp2_with (fail)
          go_ret
          exact ⟨rfl, B15.out⟩
      · have HPV := Lib.hid (show pmuB m e X Y L ([] : List Int) = true by rw [HPK.out, hpv])
        clear hpv
        go_wp2_with (fail)
        refine (frSame_any (A18) (A21) l18 l21 c18 c21 _ _ _ _ _ DP15.out.at_.1 QS15.out.at_.1 (by have := DP15.out.at_.2.2; omega) (by have := QS15.out.at_.2.2; omega)).mono ?_
        rw [HD9.out HPV.out, eqL_own_DE]
        rintro e w_16 ⟨rfl, hb_16⟩
        have B16 := Lib.hid (B15.out.trans (hb_16.mono B15.out.size))
        have F16 := Lib.hid (F15.out.next hb_16)
        have KR16 := Lib.hid (KR15.out.next hb_16)
        have IR16 := Lib.hid (IR15.out.next hb_16)
        have D16 := Lib.hid (D15.out.next hb_16)
        have SD16 := Lib.hid (SD15.out.next hb_16)
        have G16 := Lib.hid (G15.out.next hb_16)
        have DG16 := Lib.hid (DG15.out.next hb_16)
        have P16 := Lib.hid (P15.out.next hb_16)
        have DP16 := Lib.hid (DP15.out.next hb_16)
        have QA16 := Lib.hid (QA15.out.next hb_16)
        have QB16 := Lib.hid (QB15.out.next hb_16)
        have QS16 := Lib.hid (QS15.out.next hb_16)
        have T16 := Lib.hid (T15.out.next hb_16)
        have DT16 := Lib.hid (DT15.out.next hb_16)
        have DD16 := Lib.hid (DD15.out.next hb_16)
        clear hb_16
        have hnD := HND.out
        by_cases hf0 : nF = 0
        · have hd0 : l5 = 0 := by omega
          subst hf0
          rw [hd0]
          go_wp2_with (fail)
          go_ret
          exact ⟨rfl, B16.out⟩
        · obtain ⟨j, hj⟩ : ∃ j, nF = j + 1 := ⟨nF - 1, by omega⟩
          have hdj : decide (l5 ≤ j) = true := decide_eq_true (by omega)
          go_wp2_with (fail)
          go_ret
          exact ⟨rfl, B16.out⟩

end Go.Proofs.Ytkjanhcajopfhaa

