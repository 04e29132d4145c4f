
import Derived.Test.YtpideooccccfgaaMH
/- The walk of the law FnNilpotents. -/
namespace Go.Proofs.Ytpideooccccfgaa
open Go.RowKit
set_option maxRecDepth 100000

theorem set_at {l : List Nat} {i : Nat} {b : Bool} (h : i < 16) (hb : decide (i ∈ l) = b) : (setA l)[i]? = some (.bool b) := by rw [setA_get h, hb]
theorem list_take_all {l : List Nat} {j n : Nat} (h : l.length = n) (hj : ¬ j < n) : l.take j = l := List.take_of_length_le (by omega)
set_option maxHeartbeats 16000000 in
theorem fnNilpotents_walk (A : Option Addr) (n c : Nat) (w : World) (hb : Byts w w.heap.size A n) (hc : n ≤ c) (hc2 : c ≤ 9223372036854775807) :
    Calls Try.prog 13 #[.slice A n c] w fun e w' => e = .returned (.bool true) ∧ Below w.heap.size w w' := by
  by_cases hbig : n > 1048576
  · have t0 : decide ((n : Int) > 1048576) = true := by simp; omega
    go_enter Try.func13, Try.ntmps13
    go_wp2_with (fail)
    go_ret
    exact ⟨rfl, Below.refl _ _⟩
  have hn : n ≤ 1048576 := by omega
  have t0 : decide ((n : Int) > 1048576) = false := by simp; omega
  go_enter Try.func13, Try.ntmps13
  go_wp2_with (fail)
  refine (drawNilpotentsOf_any A n c w hb hn hc hc2).mono ?_
  rintro e w1 ⟨v, rfl, hA, hb1⟩
  obtain ⟨N, O, A1, A2, q, ca, cb, X, Y, rfl, hI, hq, hNmx⟩ := hA.rin
  obtain ⟨V, hV⟩ : ∃ V, w1.alloc (.cells #[.int .i64 N, .int .i64 O, .slice A1 q ca, .slice A2 q cb] 25) = V := ⟨_, rfl⟩
  have bV : Below w1.heap.size w1 V := by subst hV; exact (Below.refl _ _).alloc (Nat.le_refl _) _
  obtain ⟨bx, hbx⟩ : ∃ b, b = w1.heap.size := ⟨_, rfl⟩
  have K0 := Lib.hid (show Blk V bx 25 #[.int .i64 N, .int .i64 O, .slice A1 q ca, .slice A2 q cb] by subst hV hbx; exact Blk.new w1 _ _)
  have I0 := Lib.hid (hI.next bV)
  have B0 := Lib.hid (hb1.trans (bV.mono hb1.size))
  clear hI hb1 hA
  go_upto_region 4 with (fail)
  rw [← hbx]
  clear hV hbx bV
  cases v1 : validB N O X Y
  · have V1 := Lib.hid v1
    have eU0 : kindsL N O X Y 2 = [] := kindsL_no (by rw [v1]; simp)
    clear v1
    obtain ⟨U, eU⟩ : ∃ Z, kindsL N O X Y 2 = Z := ⟨_, rfl⟩
    obtain ⟨nU, hnU⟩ : ∃ n, U.length = n := ⟨_, rfl⟩
    have HnU := Lib.hid hnU
    have EU := Lib.hid eU
    clear hnU eU
    have t3 : ((nU : Int) == 0) = true := by rw [← HnU.out, ← EU.out, eU0]; rfl
    clear eU0
    have F3 := Lib.hid (show ∀ u, RIn u A1 q ca A2 q cb X Y → Calls Try.prog 23 #[.agg #[.int .i64 N, .int .i64 O, .slice A1 q ca, .slice A2 q cb]] u fun e' w' => e' = .returned (.bool false) ∧ Below u.heap.size u w' from fun u h => c_valid h _ V1.out)
    have c0 := K0.out.cell 0
    have c1 := K0.out.cell 1
    have c2 := K0.out.cell 2
    have c3 := K0.out.cell 3
    simp at c0 c1 c2 c3
    go_wp2_with (fail)
    refine (c_kind2 I0.out _ EU.out).mono ?_
    rintro e w_1 ⟨v, rfl, ho, hb_1⟩
    obtain ⟨A_U, c_U, rfl, ho'⟩ := ho.as HnU.out
    have U1 := Lib.hid (ho'.down (D' := w.heap.size) B0.out.size)
    clear ho ho'
    have K1 := Lib.hid (K0.out.next hb_1)
    have I1 := Lib.hid (I0.out.next hb_1)
    have B1 := Lib.hid (B0.out.trans (hb_1.mono B0.out.size))
    clear hb_1 c0 c1 c2 c3
    have c0 := K1.out.cell 0
    have c1 := K1.out.cell 1
    have c2 := K1.out.cell 2
    have c3 := K1.out.cell 3
    simp at c0 c1 c2 c3
    go_wp2_with (fail)
    refine (cs_kind2 I1.out _ EU.out).mono ?_
    rintro e w_2 ⟨v, rfl, ho, hb_2⟩
    obtain ⟨A_T, c_T, rfl, ho'⟩ := ho.as HnU.out
    have T2 := Lib.hid (ho'.down (D' := w.heap.size) B1.out.size)
    clear ho ho'
    have U2 := Lib.hid (U1.out.next hb_2)
    have K2 := Lib.hid (K1.out.next hb_2)
    have I2 := Lib.hid (I1.out.next hb_2)
    have B2 := Lib.hid (B1.out.trans (hb_2.mono B1.out.size))
    clear hb_2 c0 c1 c2 c3
    have c0 := K2.out.cell 0
    have c1 := K2.out.cell 1
    have c2 := K2.out.cell 2
    have c3 := K2.out.cell 3
    simp at c0 c1 c2 c3
    go_wp2_with (fail)
    refine (frSame_is U2.out.at_.1 T2.out.at_.1 U2.out.at_.2.2 T2.out.at_.2.2 true eqL_self).mono ?_
    rintro e w_3 ⟨rfl, hb_3⟩
    have U3 := Lib.hid (U2.out.next hb_3)
    have T3 := Lib.hid (T2.out.next hb_3)
    have K3 := Lib.hid (K2.out.next hb_3)
    have I3 := Lib.hid (I2.out.next hb_3)
    have B3 := Lib.hid (B2.out.trans (hb_3.mono B2.out.size))
    clear hb_3 c0 c1 c2 c3
    have c0 := K3.out.cell 0
    have c1 := K3.out.cell 1
    have c2 := K3.out.cell 2
    have c3 := K3.out.cell 3
    simp at c0 c1 c2 c3
    go_wp2_with (fail)
    refine (F3.out _ I3.out).mono ?_
    rintro e w_4 ⟨rfl, hb_4⟩
    have U4 := Lib.hid (U3.out.next hb_4)
    have T4 := Lib.hid (T3.out.next hb_4)
    have K4 := Lib.hid (K3.out.next hb_4)
    have I4 := Lib.hid (I3.out.next hb_4)
    have B4 := Lib.hid (B3.out.trans (hb_4.mono B3.out.size))
    clear hb_4 c0 c1 c2 c3
    have c0 := K4.out.cell 0
    have c1 := K4.out.cell 1
    have c2 := K4.out.cell 2
    have c3 := K4.out.cell 3
    simp at c0 c1 c2 c3
    go_wp2_with (fail)
    refine (cs_kind2 I4.out _ EU.out).mono ?_
    rintro e w_5 ⟨v, rfl, ho, hb_5⟩
    obtain ⟨A_T, c_T, rfl, ho'⟩ := ho.as HnU.out
    have T5 := Lib.hid (ho'.down (D' := w.heap.size) B4.out.size)
    clear ho ho'
    have U5 := Lib.hid (U4.out.next hb_5)
    have K5 := Lib.hid (K4.out.next hb_5)
    have I5 := Lib.hid (I4.out.next hb_5)
    have B5 := Lib.hid (B4.out.trans (hb_5.mono B4.out.size))
    clear hb_5 c0 c1 c2 c3
    have c0 := K5.out.cell 0
    have c1 := K5.out.cell 1
    have c2 := K5.out.cell 2
    have c3 := K5.out.cell 3
    simp at c0 c1 c2 c3
    go_wp2_with (fail)
    refine (frSame_is U5.out.at_.1 T5.out.at_.1 U5.out.at_.2.2 T5.out.at_.2.2 true eqL_self).mono ?_
    rintro e w_6 ⟨rfl, hb_6⟩
    have U6 := Lib.hid (U5.out.next hb_6)
    have T6 := Lib.hid (T5.out.next hb_6)
    have K6 := Lib.hid (K5.out.next hb_6)
    have I6 := Lib.hid (I5.out.next hb_6)
    have B6 := Lib.hid (B5.out.trans (hb_6.mono B5.out.size))
    clear hb_6 c0 c1 c2 c3
    have c0 := K6.out.cell 0
    have c1 := K6.out.cell 1
    have c2 := K6.out.cell 2
    have c3 := K6.out.cell 3
    simp at c0 c1 c2 c3
    go_wp2_with (fail)
    go_ret
    exact ⟨rfl, B6.out⟩
  · skip
    obtain ⟨m, e, b1, o1, b2, o2, rfl, rfl, rfl, rfl, hr, _⟩ := valid_data v1 I0.out.hX I0.out.hY I0.out.hca I0.out.hcb
    have V1 := Lib.hid v1
    have R := Lib.hid (rtab_of_valid v1)
    have hm := hr.hm
    have hm' := hr.hm'
    have he := hr.he
    have HQ := Lib.hid hr.hla
    clear hr v1
    obtain ⟨Ls, hLs⟩ : ∃ L : List (Fin m), selTo m (kindB m (tabOf Y) e 2) m = L := ⟨_, rfl⟩
    have hUL : kindsL m e X Y 2 = finI Ls := by rw [kindsL_yes V1.out, hLs]
    have hmem : ∀ x, x < m → (decide (x ∈ finN Ls) = true ↔ NilAt m (tabOf Y) e x) := fun x hx => by
      rw [decide_eq_true_iff, ← hLs, selTo_mem m (Nat.le_refl _)]
      exact ⟨fun h => (R.out.nilB_iff hm' hx).1 h.2, fun h => ⟨hx, (R.out.nilB_iff hm' hx).2 h⟩⟩
    have hcnt : Ls.length ∣ m := by rw [← hLs]; exact R.out.nil_count hm'
    have h0 : 0 ∈ finN Ls := by have := (hmem 0 hm).2 R.out.nil_zero; exact of_decide_eq_true this
    have hLlen : (finN Ls).length = Ls.length := by simp [finN]
    have hpos : 1 ≤ Ls.length := by rw [← hLlen]; exact List.length_pos_of_mem h0
    have hle : Ls.length ≤ m := Nat.le_of_dvd hm hcnt
    have hIlen : (finI Ls).length = Ls.length := finI_len
    obtain ⟨U, eU⟩ : ∃ Z, kindsL m e X Y 2 = Z := ⟨_, rfl⟩
    obtain ⟨nU, hnU⟩ : ∃ n, U.length = n := ⟨_, rfl⟩
    have HnU := Lib.hid hnU
    have EU := Lib.hid eU
    clear hnU eU
    rw [EU.out] at hUL
    have hn : nU = Ls.length := by rw [← HnU.out, hUL, hIlen]
    rw [← hn] at hcnt hpos hle hLlen
    have q3 : (m : Int) % nU = 0 := Int.emod_eq_zero_of_dvd (Int.natCast_dvd_natCast.2 hcnt)
    have q4 : (m : Int).tmod nU = 0 := by rw [Int.tmod_eq_emod_of_nonneg (by omega)]; exact q3
    have n3 : ¬ nU = 0 := by omega
    have HMEM := Lib.hid hmem
    have HUL := Lib.hid hUL
    have HLN := Lib.hid hLlen
    have HN := Lib.hid hn
    have H0 := Lib.hid h0
    clear hmem hUL hLlen hn h0 hcnt hIlen hLs
    have F3 := Lib.hid (show ∀ u, RIn u (some ⟨b1, o1, none⟩) q ca (some ⟨b2, o2, none⟩) q cb X Y → Calls Try.prog 23 #[.agg #[.int .i64 m, .int .i64 e, .slice (some ⟨b1, o1, none⟩) q ca, .slice (some ⟨b2, o2, none⟩) q cb]] u fun e' w' => e' = .returned (.bool true) ∧ Below u.heap.size u w' from fun u h => c_valid h _ V1.out)
    have c0 := K0.out.cell 0
    have c1 := K0.out.cell 1
    have c2 := K0.out.cell 2
    have c3 := K0.out.cell 3
    simp at c0 c1 c2 c3
    go_wp2_with (fail)
    refine (c_kind2 I0.out _ EU.out).mono ?_
    rintro e w_1 ⟨v, rfl, ho, hb_1⟩
    obtain ⟨A_U, c_U, rfl, ho'⟩ := ho.as HnU.out
    have U1 := Lib.hid (ho'.down (D' := w.heap.size) B0.out.size)
    clear ho ho'
    have K1 := Lib.hid (K0.out.next hb_1)
    have I1 := Lib.hid (I0.out.next hb_1)
    have B1 := Lib.hid (B0.out.trans (hb_1.mono B0.out.size))
    clear hb_1 c0 c1 c2 c3
    have c0 := K1.out.cell 0
    have c1 := K1.out.cell 1
    have c2 := K1.out.cell 2
    have c3 := K1.out.cell 3
    simp at c0 c1 c2 c3
    go_wp2_with (fail)
    refine (cs_kind2 I1.out _ EU.out).mono ?_
    rintro e w_2 ⟨v, rfl, ho, hb_2⟩
    obtain ⟨A_T, c_T, rfl, ho'⟩ := ho.as HnU.out
    have T2 := Lib.hid (ho'.down (D' := w.heap.size) B1.out.size)
    clear ho ho'
    have U2 := Lib.hid (U1.out.next hb_2)
    have K2 := Lib.hid (K1.out.next hb_2)
    have I2 := Lib.hid (I1.out.next hb_2)
    have B2 := Lib.hid (B1.out.trans (hb_2.mono B1.out.size))
    clear hb_2 c0 c1 c2 c3
    have c0 := K2.out.cell 0
    have c1 := K2.out.cell 1
    have c2 := K2.out.cell 2
    have c3 := K2.out.cell 3
    simp at c0 c1 c2 c3
    go_wp2_with (fail)
    refine (frSame_is U2.out.at_.1 T2.out.at_.1 U2.out.at_.2.2 T2.out.at_.2.2 true eqL_self).mono ?_
    rintro e w_3 ⟨rfl, hb_3⟩
    have U3 := Lib.hid (U2.out.next hb_3)
    have T3 := Lib.hid (T2.out.next hb_3)
    have K3 := Lib.hid (K2.out.next hb_3)
    have I3 := Lib.hid (I2.out.next hb_3)
    have B3 := Lib.hid (B2.out.trans (hb_3.mono B2.out.size))
    clear hb_3 c0 c1 c2 c3
    have c0 := K3.out.cell 0
    have c1 := K3.out.cell 1
    have c2 := K3.out.cell 2
    have c3 := K3.out.cell 3
    simp at c0 c1 c2 c3
    go_wp2_with (fail)
    refine (F3.out _ I3.out).mono ?_
    rintro e w_4 ⟨rfl, hb_4⟩
    have U4 := Lib.hid (U3.out.next hb_4)
    have K4 := Lib.hid (K3.out.next hb_4)
    have I4 := Lib.hid (I3.out.next hb_4)
    have B4 := Lib.hid (B3.out.trans (hb_4.mono B3.out.size))
    clear hb_4 c0 c1 c2 c3
    have c0 := K4.out.cell 0
    have c1 := K4.out.cell 1
    have c2 := K4.out.cell 2
    have c3 := K4.out.cell 3
    simp at c0 c1 c2 c3
    obtain ⟨w_5, hV⟩ : ∃ V, w_4.alloc (.cells #[.bool false, .bool false, .bool false, .bool false, .bool false, .bool false, .bool false, .bool false, .bool false, .bool false, .bool false, .bool false, .bool false, .bool false, .bool false, .bool false] 60) = V := ⟨_, rfl⟩
    have bV : Below w_4.heap.size w_4 w_5 := by subst hV; exact (Below.refl _ _).alloc (Nat.le_refl _) _
    have kS : Blk w_5 w_4.heap.size 60 #[.bool false, .bool false, .bool false, .bool false, .bool false, .bool false, .bool false, .bool false, .bool false, .bool false, .bool false, .bool false, .bool false, .bool false, .bool false, .bool false] := by subst hV; exact Blk.new w_4 _ _
    have kS2 : Blk (w_5.setRow w_4.heap.size #[.bool false, .bool false, .bool false, .bool false, .bool false, .bool false, .bool false, .bool false, .bool false, .bool false, .bool false, .bool false, .bool false, .bool false, .bool false, .bool false]) w_4.heap.size 60 (setA []) := by rw [setA_nil]; exact setRow_heap _ _ _ _ _ _ kS
    have bV2 : Below w_4.heap.size w_4 (w_5.setRow w_4.heap.size #[.bool false, .bool false, .bool false, .bool false, .bool false, .bool false, .bool false, .bool false, .bool false, .bool false, .bool false, .bool false, .bool false, .bool false, .bool false, .bool false]) := below_setRow bV (Nat.le_refl _) _
    have HV := Lib.hid hV
    clear c0 c1 c2 c3
    have kI : (Try.prog.info? 60).map (·.size) = some (#[.bool false, .bool false, .bool false, .bool false, .bool false, .bool false, .bool false, .bool false, .bool false, .bool false, .bool false, .bool false, .bool false, .bool false, .bool false, .bool false] : Array Value).size := by kernel_rfl
    have kO : (#[.bool false, .bool false, .bool false, .bool false, .bool false, .bool false, .bool false, .bool false, .bool false, .bool false, .bool false, .bool false, .bool false, .bool false, .bool false, .bool false] : Array Value).all (·.oneCell') = true := by rw [← setA_nil]; exact setA_one
    go_wp2_with (first | (refine wpList_store_row rfl 60 (.tmp 5) (.tmp 37) rfl w_4.heap.size #[.bool false, .bool false, .bool false, .bool false, .bool false, .bool false, .bool false, .bool false, .bool false, .bool false, .bool false, .bool false, .bool false, .bool false, .bool false, .bool false] rfl rfl _ #[.bool false, .bool false, .bool false, .bool false, .bool false, .bool false, .bool false, .bool false, .bool false, .bool false, .bool false, .bool false, .bool false, .bool false, .bool false, .bool false] kS kI rfl kO ?_))
    skip
    obtain ⟨w_6, hw6⟩ : ∃ W, w_5.setRow w_4.heap.size #[.bool false, .bool false, .bool false, .bool false, .bool false, .bool false, .bool false, .bool false, .bool false, .bool false, .bool false, .bool false, .bool false, .bool false, .bool false, .bool false] = W := ⟨_, rfl⟩
    rw [hw6] at kS2 bV2 ⊢
    obtain ⟨bs, hbs⟩ : ∃ b, b = w_4.heap.size := ⟨_, rfl⟩
    have LBS := Lib.hid (show w_4.heap.size ≤ bs by omega)
    rw [← hbs] at kS2
    simp only [← hbs]
    have KS5 := Lib.hid kS2
    have BV := Lib.hid bV2
    clear hV hw6 hbs kS kS2 bV bV2 HV kI kO
    skip
    go_loopw [40] (fun iv wr => ∃ j : Nat, j ≤ nU ∧ iv = .int .i64 j ∧ Blk wr bs 60 (setA ((finN Ls).take j)) ∧ Below w_4.heap.size w_4 wr) (fun iv _ => nU - (intOf iv).toNat)
    case atStart => exact ⟨0, Nat.zero_le _, rfl, KS5.out, BV.out⟩
    case round =>
      obtain ⟨j, hj, rfl, hks, hbr⟩ := hrel
      have KS90 := Lib.hid hks
      clear hks KS5 BV
      have K90 := Lib.hid (K4.out.next hbr)
      have I90 := Lib.hid (I4.out.next hbr)
      have B90 := Lib.hid (B4.out.trans (hbr.mono B4.out.size))
      have BQ90 := Lib.hid hbr
      have U90 := Lib.hid (U4.out.next hbr)
      clear hbr
      by_cases hlt : j < nU
      · obtain ⟨u, hu, hg, htk⟩ := finI_get (l := Ls) (k := j) (by rw [← HN.out]; exact hlt)
        obtain ⟨bb, oo, eA, _, hcell⟩ := U90.out.at_.1.at_ hlt
        rw [HUL.out, hg] at hcell
        subst eA
        have HTK := Lib.hid htk
        have hc := (KS90.out.cell u).trans (setA_get (by omega))
        have hf := KS90.out.frozen u
        have t0 : (0 : Int) ≤ (u : Int) := by omega
        have t1 : (u : Int) < 16 := by omega
        clear hg htk
        go_wp2
        go_roundw
        case rel =>
          refine ⟨j + 1, by omega, by go_num, ?_, BQ90.out.setCell (p := ⟨bs, u, none⟩) LBS.out _⟩
          have := KS90.out.set_ u (.bool true)
          rw [setA_set] at this
          rw [HTK.out]
          exact this
        case measure => simp [intOf]; omega
      · have KS90 := Lib.hid (show Blk wr bs 60 (setA (finN Ls)) by have := KS90.out; rw [list_take_all HLN.out hlt] at this; exact this)
        obtain ⟨ws, rfl⟩ : ∃ ws, ws = wr := ⟨_, rfl⟩
        clear BQ90
        go_wp2_with (fail)
        clear hlt
        go_loopw [49] (fun iv wr => ∃ j : Nat, j ≤ nU ∧ iv = .int .i64 j ∧ Below ws.heap.size ws wr) (fun iv _ => nU - (intOf iv).toNat)
        case atStart => exact ⟨0, Nat.zero_le _, rfl, Below.refl _ _⟩
        case round =>
          obtain ⟨j2, hj2, rfl, hbr⟩ := hrel
          have K91 := Lib.hid (K90.out.next hbr)
          have I91 := Lib.hid (I90.out.next hbr)
          have B91 := Lib.hid (B90.out.trans (hbr.mono B90.out.size))
          have BQ91 := Lib.hid hbr
          have U91 := Lib.hid (U90.out.next hbr)
          have KS91 := Lib.hid (KS90.out.next hbr)
          clear hbr
          by_cases hlt : j2 < nU
          · obtain ⟨ue, hu, hg, _⟩ := finI_get (l := Ls) (k := j2) (by rw [← HN.out]; exact hlt)
            have hun : NilAt m (tabOf Y) e ue := (HMEM.out ue hu).1 (decide_eq_true (by
              have h1 : j2 < Ls.length := by rw [← HN.out]; exact hlt
              have h2 : ue = (Ls[j2]).1 := by have := finI_get_val h1; rw [hg] at this; omega
              rw [h2]
              exact List.mem_map.2 ⟨Ls[j2], List.getElem_mem h1, rfl⟩))
            obtain ⟨bb, oo, eA, _, hcell⟩ := U91.out.at_.1.at_ hlt
            rw [HUL.out, hg] at hcell
            subst eA
            have HUN := Lib.hid hun
            clear hg hun
            obtain ⟨s1, hs1⟩ : ∃ s, tabOf X (e * m + ue) = s := ⟨_, rfl⟩
            have ls1 : s1 < m := by rw [← hs1]; exact R.out.sc he hu
            obtain ⟨cv, lcv, hcv⟩ : UnitAt m (tabOf Y) e s1 := by rw [← hs1]; exact R.out.nil_unit hu HUN.out
            have G1 := Lib.hid (show ∀ u, RIn u (some ⟨b1, o1, none⟩) q ca (some ⟨b2, o2, none⟩) q cb X Y → Calls Try.prog 39 #[.agg #[.int .i64 m, .int .i64 e, .slice (some ⟨b1, o1, none⟩) q ca, .slice (some ⟨b2, o2, none⟩) q cb], .int .i64 e, .int .i64 ue] u fun e' w' => e' = .returned (.int .i64 s1) ∧ Below u.heap.size u w' from fun u h => c_frAdd h V1.out he hu hs1 rfl rfl rfl)
            have G2 := Lib.hid (show ∀ u, RIn u (some ⟨b1, o1, none⟩) q ca (some ⟨b2, o2, none⟩) q cb X Y → Calls Try.prog 67 #[.agg #[.int .i64 m, .int .i64 e, .slice (some ⟨b1, o1, none⟩) q ca, .slice (some ⟨b2, o2, none⟩) q cb], .int .i64 s1] u fun e' w' => e' = .returned (.int .i64 cv) ∧ Below u.heap.size u w' from fun u h => c_inv h _ _ (v_inv V1.out ls1 lcv hcv rfl rfl))
            clear hs1 hcv
            have c0 := K91.out.cell 0
            have c1 := K91.out.cell 1
            have c2 := K91.out.cell 2
            have c3 := K91.out.cell 3
            simp at c0 c1 c2 c3
            go_wp2_with (fail)
            refine wp_region_ext (by kernel_rfl) (by kernel_rfl) ?_
            repeat (go_big_quiet_step (first
              | (go_at_call 39; with_reducible refine calls_ext (G1.out _ (I91.out.ext _)))
              | (go_at_call 67; with_reducible refine calls_ext (G2.out _ (I91.out.ext _)))
              | fail))
            refine wpQuiet_nil ?_
            intro w_92 hb_92
            have BQ92 := Lib.hid (BQ91.out.trans (hb_92.mono BQ91.out.size))
            have U92 := Lib.hid (U91.out.next hb_92)
            have KS92 := Lib.hid (KS91.out.next hb_92)
            have K92 := Lib.hid (K91.out.next hb_92)
            have I92 := Lib.hid (I91.out.next hb_92)
            have B92 := Lib.hid (B91.out.trans (hb_92.mono B91.out.size))
            clear hb_92 c0 c1 c2 c3
            have c0 := K92.out.cell 0
            have c1 := K92.out.cell 1
            have c2 := K92.out.cell 2
            have c3 := K92.out.cell 3
            simp at c0 c1 c2 c3
            go_wp2_with (fail)
            go_loopw [63] (fun iv wr => ∃ j : Nat, j ≤ m ∧ iv = .int .i64 j ∧ Below w_92.heap.size w_92 wr) (fun iv _ => m - (intOf iv).toNat)
            case atStart => exact ⟨0, Nat.zero_le _, rfl, Below.refl _ _⟩
            case round =>
              clear c0 c1 c2 c3
              obtain ⟨x, hx, rfl, hbr⟩ := hrel
              have BO := Lib.hid (BQ92.out.trans (hbr.mono BQ92.out.size))
              have K95 := Lib.hid (K92.out.next hbr)
              have I95 := Lib.hid (I92.out.next hbr)
              have B95 := Lib.hid (B92.out.trans (hbr.mono B92.out.size))
              have BQ95 := Lib.hid hbr
              have U95 := Lib.hid (U92.out.next hbr)
              have KS95 := Lib.hid (KS92.out.next hbr)
              clear hbr
              by_cases hlx : x < m
              · obtain ⟨pv, hpv⟩ : ∃ s, tabOf Y (ue * m + x) = s := ⟨_, rfl⟩
                have lpv : pv < m := by rw [← hpv]; exact R.out.pc hu hlx
                have hpn : decide (pv ∈ finN Ls) = true := (HMEM.out pv lpv).2 (by rw [← hpv]; exact R.out.nil_mul hu hlx HUN.out)
                obtain ⟨sv, hsv⟩ : ∃ s, tabOf X (ue * m + x) = s := ⟨_, rfl⟩
                have lsv : sv < m := by rw [← hsv]; exact R.out.sc hu hlx
                obtain ⟨ib, hib⟩ : ∃ b, decide (x ∈ finN Ls) = b := ⟨_, rfl⟩
                have hsn : ib = true → decide (sv ∈ finN Ls) = true := fun h => (HMEM.out sv lsv).2 (by rw [← hsv]; exact R.out.nil_add hu hlx HUN.out ((HMEM.out x hlx).1 (hib.trans h)))
                have P1 := Lib.hid (show ∀ u, RIn u (some ⟨b1, o1, none⟩) q ca (some ⟨b2, o2, none⟩) q cb X Y → Calls Try.prog 40 #[.agg #[.int .i64 m, .int .i64 e, .slice (some ⟨b1, o1, none⟩) q ca, .slice (some ⟨b2, o2, none⟩) q cb], .int .i64 ue, .int .i64 x] u fun e' w' => e' = .returned (.int .i64 pv) ∧ Below u.heap.size u w' from fun u h => c_frMul h V1.out hu hlx hpv rfl rfl rfl)
                have P2 := Lib.hid (show ∀ u, RIn u (some ⟨b1, o1, none⟩) q ca (some ⟨b2, o2, none⟩) q cb X Y → Calls Try.prog 39 #[.agg #[.int .i64 m, .int .i64 e, .slice (some ⟨b1, o1, none⟩) q ca, .slice (some ⟨b2, o2, none⟩) q cb], .int .i64 ue, .int .i64 x] u fun e' w' => e' = .returned (.int .i64 sv) ∧ Below u.heap.size u w' from fun u h => c_frAdd h V1.out hu hlx hsv rfl rfl rfl)
                have HPN := Lib.hid hpn
                have HSN := Lib.hid hsn
                have HIB := Lib.hid hib
                clear hpn hsn hib hpv hsv
                have c0 := K95.out.cell 0
                have c1 := K95.out.cell 1
                have c2 := K95.out.cell 2
                have c3 := K95.out.cell 3
                simp at c0 c1 c2 c3
                go_wp2_with (fail)
                refine (P1.out _ I95.out).mono ?_
                rintro e w_96 ⟨rfl, hb_96⟩
                have BQ96 := Lib.hid (BQ95.out.trans (hb_96.mono BQ95.out.size))
                have U96 := Lib.hid (U95.out.next hb_96)
                have KS96 := Lib.hid (KS95.out.next hb_96)
                have K96 := Lib.hid (K95.out.next hb_96)
                have I96 := Lib.hid (I95.out.next hb_96)
                have B96 := Lib.hid (B95.out.trans (hb_96.mono B95.out.size))
                clear hb_96 c0 c1 c2 c3
                have c0 := K96.out.cell 0
                have c1 := K96.out.cell 1
                have c2 := K96.out.cell 2
                have c3 := K96.out.cell 3
                simp at c0 c1 c2 c3
                have hcp := (KS96.out.cell (pv)).trans (set_at (b := true) (by omega) HPN.out)
                have hcx := (KS96.out.cell (x)).trans (set_at (b := ib) (by omega) HIB.out)
                have b1_ : (pv : Int) < 16 := by omega
                have b2_ : (x : Int) < 16 := by omega
                have b3_ : (sv : Int) < 16 := by omega
                cases ib
                · go_wp2
                  go_roundw
                  case rel => exact ⟨x + 1, by omega, by go_num, BQ96.out⟩
                  case measure => simp [intOf]; omega
                · have HSM := Lib.hid (show decide (sv ∈ finN Ls) = true from HSN.out (by first | rfl | trivial))
                  clear hcp hcx
                  have hcp := (KS96.out.cell (pv)).trans (set_at (b := true) (by omega) HPN.out)
                  have hcx := (KS96.out.cell (x)).trans (set_at (b := true) (by omega) HIB.out)
                  go_wp2_with (fail)
                  refine (P2.out _ I96.out).mono ?_
                  rintro e w_97 ⟨rfl, hb_97⟩
                  clear hcp hcx
                  have BQ97 := Lib.hid (BQ96.out.trans (hb_97.mono BQ96.out.size))
                  have U97 := Lib.hid (U96.out.next hb_97)
                  have KS97 := Lib.hid (KS96.out.next hb_97)
                  have K97 := Lib.hid (K96.out.next hb_97)
                  have I97 := Lib.hid (I96.out.next hb_97)
                  have B97 := Lib.hid (B96.out.trans (hb_97.mono B96.out.size))
                  clear hb_97 c0 c1 c2 c3
                  have c0 := K97.out.cell 0
                  have c1 := K97.out.cell 1
                  have c2 := K97.out.cell 2
                  have c3 := K97.out.cell 3
                  simp at c0 c1 c2 c3
                  have hcs := (KS97.out.cell (sv)).trans (set_at (b := true) (by omega) HSM.out)
                  go_wp2
                  go_roundw
                  case rel => exact ⟨x + 1, by omega, by go_num, BQ97.out⟩
                  case measure => simp [intOf]; omega
              · go_wp2
                go_roundw
                case rel => exact ⟨j2 + 1, by omega, by go_num, BO.out⟩
                case measure => simp [intOf]; omega
          · have h0 := H0.out
            have hc0 := (KS91.out.cell (0)).trans (set_at (b := true) (by omega) (decide_eq_true h0))
            clear h0
            have c0 := K91.out.cell 0
            have c1 := K91.out.cell 1
            have c2 := K91.out.cell 2
            have c3 := K91.out.cell 3
            simp at c0 c1 c2 c3
            go_wp2_with (fail)
            go_ret
            exact ⟨rfl, B91.out⟩

end Go.Proofs.Ytpideooccccfgaa
