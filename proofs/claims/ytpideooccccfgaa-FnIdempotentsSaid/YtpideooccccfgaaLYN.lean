
import Derived.Test.YtpideooccccfgaaMH
/- The walk of the law FnIdempotents. -/
namespace Go.Proofs.Ytpideooccccfgaa
open Go.RowKit
set_option maxRecDepth 100000

theorem set_at {l : List Nat} {i : Nat} {b : Bool} (h : i < 16) (hb : decide (i ∈ l) = b) : (setA l)[i]? = some (.bool b) := by rw [setA_get h, hb]
theorem list_take_all {l : List Nat} {j n : Nat} (h : l.length = n) (hj : ¬ j < n) : l.take j = l := List.take_of_length_le (by omega)
set_option maxHeartbeats 16000000 in
theorem fnIdempotents_walk (A : Option Addr) (n c : Nat) (w : World) (hb : Byts w w.heap.size A n) (hc : n ≤ c) (hc2 : c ≤ 9223372036854775807) :
    Calls Try.prog 14 #[.slice A n c] w fun e w' => e = .returned (.bool true) ∧ Below w.heap.size w w' := by
  by_cases hbig : n > 1048576
  · have t0 : decide ((n : Int) > 1048576) = true := by simp; omega
    go_enter Try.func14, Try.ntmps14
    go_wp2_with (fail)
    go_ret
    exact ⟨rfl, Below.refl _ _⟩
  have hn : n ≤ 1048576 := by omega
  have t0 : decide ((n : Int) > 1048576) = false := by simp; omega
  go_enter Try.func14, Try.ntmps14
  go_wp2_with (fail)
  refine (drawIdempotentsOf_any A n c w hb hn hc hc2).mono ?_
  rintro e w1 ⟨v, rfl, hA, hb1⟩
  obtain ⟨N, O, A1, A2, q, ca, cb, X, Y, rfl, hI, hq, hNmx⟩ := hA.rin
  obtain ⟨V, hV⟩ : ∃ V, w1.alloc (.cells #[.int .i64 N, .int .i64 O, .slice A1 q ca, .slice A2 q cb] 25) = V := ⟨_, rfl⟩
  have bV : Below w1.heap.size w1 V := by subst hV; exact (Below.refl _ _).alloc (Nat.le_refl _) _
  obtain ⟨bx, hbx⟩ : ∃ b, b = w1.heap.size := ⟨_, rfl⟩
  have K0 := Lib.hid (show Blk V bx 25 #[.int .i64 N, .int .i64 O, .slice A1 q ca, .slice A2 q cb] by subst hV hbx; exact Blk.new w1 _ _)
  have I0 := Lib.hid (hI.next bV)
  have B0 := Lib.hid (hb1.trans (bV.mono hb1.size))
  clear hI hb1 hA
  go_upto_region 4 with (fail)
  rw [← hbx]
  clear hV hbx bV
  cases v1 : validB N O X Y
  · have V1 := Lib.hid v1
    have eU0 : kindsL N O X Y 3 = [] := kindsL_no (by rw [v1]; simp)
    clear v1
    obtain ⟨U, eU⟩ : ∃ Z, kindsL N O X Y 3 = Z := ⟨_, rfl⟩
    obtain ⟨nU, hnU⟩ : ∃ n, U.length = n := ⟨_, rfl⟩
    have HnU := Lib.hid hnU
    have EU := Lib.hid eU
    clear hnU eU
    have t3 : ((nU : Int) == 0) = true := by rw [← HnU.out, ← EU.out, eU0]; rfl
    clear eU0
    have F3 := Lib.hid (show ∀ u, RIn u A1 q ca A2 q cb X Y → Calls Try.prog 23 #[.agg #[.int .i64 N, .int .i64 O, .slice A1 q ca, .slice A2 q cb]] u fun e' w' => e' = .returned (.bool false) ∧ Below u.heap.size u w' from fun u h => c_valid h _ V1.out)
    have c0 := K0.out.cell 0
    have c1 := K0.out.cell 1
    have c2 := K0.out.cell 2
    have c3 := K0.out.cell 3
    simp at c0 c1 c2 c3
    go_wp2_with (fail)
    refine (c_kind3 I0.out _ EU.out).mono ?_
    rintro e w_1 ⟨v, rfl, ho, hb_1⟩
    obtain ⟨A_U, c_U, rfl, ho'⟩ := ho.as HnU.out
    have U1 := Lib.hid (ho'.down (D' := w.heap.size) B0.out.size)
    clear ho ho'
    have K1 := Lib.hid (K0.out.next hb_1)
    have I1 := Lib.hid (I0.out.next hb_1)
    have B1 := Lib.hid (B0.out.trans (hb_1.mono B0.out.size))
    clear hb_1 c0 c1 c2 c3
    have c0 := K1.out.cell 0
    have c1 := K1.out.cell 1
    have c2 := K1.out.cell 2
    have c3 := K1.out.cell 3
    simp at c0 c1 c2 c3
    go_wp2_with (fail)
    refine (cs_kind3 I1.out _ EU.out).mono ?_
    rintro e w_2 ⟨v, rfl, ho, hb_2⟩
    obtain ⟨A_T, c_T, rfl, ho'⟩ := ho.as HnU.out
    have T2 := Lib.hid (ho'.down (D' := w.heap.size) B1.out.size)
    clear ho ho'
    have U2 := Lib.hid (U1.out.next hb_2)
    have K2 := Lib.hid (K1.out.next hb_2)
    have I2 := Lib.hid (I1.out.next hb_2)
    have B2 := Lib.hid (B1.out.trans (hb_2.mono B1.out.size))
    clear hb_2 c0 c1 c2 c3
    have c0 := K2.out.cell 0
    have c1 := K2.out.cell 1
    have c2 := K2.out.cell 2
    have c3 := K2.out.cell 3
    simp at c0 c1 c2 c3
    go_wp2_with (fail)
    refine (frSame_is U2.out.at_.1 T2.out.at_.1 U2.out.at_.2.2 T2.out.at_.2.2 true eqL_self).mono ?_
    rintro e w_3 ⟨rfl, hb_3⟩
    have U3 := Lib.hid (U2.out.next hb_3)
    have T3 := Lib.hid (T2.out.next hb_3)
    have K3 := Lib.hid (K2.out.next hb_3)
    have I3 := Lib.hid (I2.out.next hb_3)
    have B3 := Lib.hid (B2.out.trans (hb_3.mono B2.out.size))
    clear hb_3 c0 c1 c2 c3
    have c0 := K3.out.cell 0
    have c1 := K3.out.cell 1
    have c2 := K3.out.cell 2
    have c3 := K3.out.cell 3
    simp at c0 c1 c2 c3
    go_wp2_with (fail)
    refine (F3.out _ I3.out).mono ?_
    rintro e w_4 ⟨rfl, hb_4⟩
    have U4 := Lib.hid (U3.out.next hb_4)
    have T4 := Lib.hid (T3.out.next hb_4)
    have K4 := Lib.hid (K3.out.next hb_4)
    have I4 := Lib.hid (I3.out.next hb_4)
    have B4 := Lib.hid (B3.out.trans (hb_4.mono B3.out.size))
    clear hb_4 c0 c1 c2 c3
    have c0 := K4.out.cell 0
    have c1 := K4.out.cell 1
    have c2 := K4.out.cell 2
    have c3 := K4.out.cell 3
    simp at c0 c1 c2 c3
    go_wp2_with (fail)
    refine (cs_kind3 I4.out _ EU.out).mono ?_
    rintro e w_5 ⟨v, rfl, ho, hb_5⟩
    obtain ⟨A_T, c_T, rfl, ho'⟩ := ho.as HnU.out
    have T5 := Lib.hid (ho'.down (D' := w.heap.size) B4.out.size)
    clear ho ho'
    have U5 := Lib.hid (U4.out.next hb_5)
    have K5 := Lib.hid (K4.out.next hb_5)
    have I5 := Lib.hid (I4.out.next hb_5)
    have B5 := Lib.hid (B4.out.trans (hb_5.mono B4.out.size))
    clear hb_5 c0 c1 c2 c3
    have c0 := K5.out.cell 0
    have c1 := K5.out.cell 1
    have c2 := K5.out.cell 2
    have c3 := K5.out.cell 3
    simp at c0 c1 c2 c3
    go_wp2_with (fail)
    refine (frSame_is U5.out.at_.1 T5.out.at_.1 U5.out.at_.2.2 T5.out.at_.2.2 true eqL_self).mono ?_
    rintro e w_6 ⟨rfl, hb_6⟩
    have U6 := Lib.hid (U5.out.next hb_6)
    have T6 := Lib.hid (T5.out.next hb_6)
    have K6 := Lib.hid (K5.out.next hb_6)
    have I6 := Lib.hid (I5.out.next hb_6)
    have B6 := Lib.hid (B5.out.trans (hb_6.mono B5.out.size))
    clear hb_6 c0 c1 c2 c3
    have c0 := K6.out.cell 0
    have c1 := K6.out.cell 1
    have c2 := K6.out.cell 2
    have c3 := K6.out.cell 3
    simp at c0 c1 c2 c3
    go_wp2_with (fail)
    go_ret
    exact ⟨rfl, B6.out⟩
  · skip
    obtain ⟨m, e, b1, o1, b2, o2, rfl, rfl, rfl, rfl, hr, _⟩ := valid_data v1 I0.out.hX I0.out.hY I0.out.hca I0.out.hcb
    have V1 := Lib.hid v1
    have R := Lib.hid (rtab_of_valid v1)
    have hm := hr.hm
    have hm' := hr.hm'
    have he := hr.he
    have HQ := Lib.hid hr.hla
    clear hr v1
    obtain ⟨Ls, hLs⟩ : ∃ L : List (Fin m), selTo m (kindB m (tabOf Y) e 3) m = L := ⟨_, rfl⟩
    have hUL : kindsL m e X Y 3 = finI Ls := by rw [kindsL_yes V1.out, hLs]
    have hmem : ∀ x, x < m → (decide (x ∈ finN Ls) = true ↔ tabOf Y (x * m + x) = x) := fun x hx => by
      rw [decide_eq_true_iff, ← hLs, selTo_mem m (Nat.le_refl _)]
      exact ⟨fun h => of_decide_eq_true h.2, fun h => ⟨hx, decide_eq_true h⟩⟩
    obtain ⟨kk, hkk⟩ : ∃ k, Ls.length = 2 ^ k := by rw [← hLs]; exact R.out.idem_count
    have h0 : 0 ∈ finN Ls := by have := (hmem 0 hm).2 (congrArg Fin.val (R.out.M0 ⟨0, hm⟩)); exact of_decide_eq_true this
    have h1 : e ∈ finN Ls := by have := (hmem e he).2 (R.out.p.zero he); exact of_decide_eq_true this
    have hLlen : (finN Ls).length = Ls.length := by simp [finN]
    have hle : Ls.length ≤ m := by rw [← hLs]; exact selTo_len m
    have hIlen : (finI Ls).length = Ls.length := finI_len
    obtain ⟨U, eU⟩ : ∃ Z, kindsL m e X Y 3 = Z := ⟨_, rfl⟩
    obtain ⟨nU, hnU⟩ : ∃ n, U.length = n := ⟨_, rfl⟩
    have HnU := Lib.hid hnU
    have EU := Lib.hid eU
    clear hnU eU
    rw [EU.out] at hUL
    have hn : nU = Ls.length := by rw [← HnU.out, hUL, hIlen]
    rw [← hn] at hkk hle hLlen
    have hpos : 1 ≤ nU := by rw [hkk]; exact Nat.one_le_two_pow
    have HMEM := Lib.hid hmem
    have HUL := Lib.hid hUL
    have HLN := Lib.hid hLlen
    have HN := Lib.hid hn
    have H0 := Lib.hid h0
    have H1 := Lib.hid h1
    have HKK := Lib.hid hkk
    clear hmem hUL hLlen hn h0 h1 hIlen hLs hkk
    have F3 := Lib.hid (show ∀ u, RIn u (some ⟨b1, o1, none⟩) q ca (some ⟨b2, o2, none⟩) q cb X Y → Calls Try.prog 23 #[.agg #[.int .i64 m, .int .i64 e, .slice (some ⟨b1, o1, none⟩) q ca, .slice (some ⟨b2, o2, none⟩) q cb]] u fun e' w' => e' = .returned (.bool true) ∧ Below u.heap.size u w' from fun u h => c_valid h _ V1.out)
    have c0 := K0.out.cell 0
    have c1 := K0.out.cell 1
    have c2 := K0.out.cell 2
    have c3 := K0.out.cell 3
    simp at c0 c1 c2 c3
    go_wp2_with (fail)
    refine (c_kind3 I0.out _ EU.out).mono ?_
    rintro e w_1 ⟨v, rfl, ho, hb_1⟩
    obtain ⟨A_U, c_U, rfl, ho'⟩ := ho.as HnU.out
    have U1 := Lib.hid (ho'.down (D' := w.heap.size) B0.out.size)
    clear ho ho'
    have K1 := Lib.hid (K0.out.next hb_1)
    have I1 := Lib.hid (I0.out.next hb_1)
    have B1 := Lib.hid (B0.out.trans (hb_1.mono B0.out.size))
    clear hb_1 c0 c1 c2 c3
    have c0 := K1.out.cell 0
    have c1 := K1.out.cell 1
    have c2 := K1.out.cell 2
    have c3 := K1.out.cell 3
    simp at c0 c1 c2 c3
    go_wp2_with (fail)
    refine (cs_kind3 I1.out _ EU.out).mono ?_
    rintro e w_2 ⟨v, rfl, ho, hb_2⟩
    obtain ⟨A_T, c_T, rfl, ho'⟩ := ho.as HnU.out
    have T2 := Lib.hid (ho'.down (D' := w.heap.size) B1.out.size)
    clear ho ho'
    have U2 := Lib.hid (U1.out.next hb_2)
    have K2 := Lib.hid (K1.out.next hb_2)
    have I2 := Lib.hid (I1.out.next hb_2)
    have B2 := Lib.hid (B1.out.trans (hb_2.mono B1.out.size))
    clear hb_2 c0 c1 c2 c3
    have c0 := K2.out.cell 0
    have c1 := K2.out.cell 1
    have c2 := K2.out.cell 2
    have c3 := K2.out.cell 3
    simp at c0 c1 c2 c3
    go_wp2_with (fail)
    refine (frSame_is U2.out.at_.1 T2.out.at_.1 U2.out.at_.2.2 T2.out.at_.2.2 true eqL_self).mono ?_
    rintro e w_3 ⟨rfl, hb_3⟩
    have U3 := Lib.hid (U2.out.next hb_3)
    have T3 := Lib.hid (T2.out.next hb_3)
    have K3 := Lib.hid (K2.out.next hb_3)
    have I3 := Lib.hid (I2.out.next hb_3)
    have B3 := Lib.hid (B2.out.trans (hb_3.mono B2.out.size))
    clear hb_3 c0 c1 c2 c3
    have c0 := K3.out.cell 0
    have c1 := K3.out.cell 1
    have c2 := K3.out.cell 2
    have c3 := K3.out.cell 3
    simp at c0 c1 c2 c3
    go_wp2_with (fail)
    refine (F3.out _ I3.out).mono ?_
    rintro e w_4 ⟨rfl, hb_4⟩
    have U4 := Lib.hid (U3.out.next hb_4)
    have K4 := Lib.hid (K3.out.next hb_4)
    have I4 := Lib.hid (I3.out.next hb_4)
    have B4 := Lib.hid (B3.out.trans (hb_4.mono B3.out.size))
    clear hb_4 c0 c1 c2 c3
    have c0 := K4.out.cell 0
    have c1 := K4.out.cell 1
    have c2 := K4.out.cell 2
    have c3 := K4.out.cell 3
    simp at c0 c1 c2 c3
    obtain ⟨w_5, hV⟩ : ∃ V, w_4.alloc (.cells #[.bool false, .bool false, .bool false, .bool false, .bool false, .bool false, .bool false, .bool false, .bool false, .bool false, .bool false, .bool false, .bool false, .bool false, .bool false, .bool false] 60) = V := ⟨_, rfl⟩
    have bV : Below w_4.heap.size w_4 w_5 := by subst hV; exact (Below.refl _ _).alloc (Nat.le_refl _) _
    have kS : Blk w_5 w_4.heap.size 60 #[.bool false, .bool false, .bool false, .bool false, .bool false, .bool false, .bool false, .bool false, .bool false, .bool false, .bool false, .bool false, .bool false, .bool false, .bool false, .bool false] := by subst hV; exact Blk.new w_4 _ _
    have kS2 : Blk (w_5.setRow w_4.heap.size #[.bool false, .bool false, .bool false, .bool false, .bool false, .bool false, .bool false, .bool false, .bool false, .bool false, .bool false, .bool false, .bool false, .bool false, .bool false, .bool false]) w_4.heap.size 60 (setA []) := by rw [setA_nil]; exact setRow_heap _ _ _ _ _ _ kS
    have bV2 : Below w_4.heap.size w_4 (w_5.setRow w_4.heap.size #[.bool false, .bool false, .bool false, .bool false, .bool false, .bool false, .bool false, .bool false, .bool false, .bool false, .bool false, .bool false, .bool false, .bool false, .bool false, .bool false]) := below_setRow bV (Nat.le_refl _) _
    have HV := Lib.hid hV
    clear c0 c1 c2 c3
    have kI : (Try.prog.info? 60).map (·.size) = some (#[.bool false, .bool false, .bool false, .bool false, .bool false, .bool false, .bool false, .bool false, .bool false, .bool false, .bool false, .bool false, .bool false, .bool false, .bool false, .bool false] : Array Value).size := by kernel_rfl
    have kO : (#[.bool false, .bool false, .bool false, .bool false, .bool false, .bool false, .bool false, .bool false, .bool false, .bool false, .bool false, .bool false, .bool false, .bool false, .bool false, .bool false] : Array Value).all (·.oneCell') = true := by rw [← setA_nil]; exact setA_one
    go_wp2_with (first | (refine wpList_store_row rfl 60 (.tmp 5) (.tmp 40) rfl w_4.heap.size #[.bool false, .bool false, .bool false, .bool false, .bool false, .bool false, .bool false, .bool false, .bool false, .bool false, .bool false, .bool false, .bool false, .bool false, .bool false, .bool false] rfl rfl _ #[.bool false, .bool false, .bool false, .bool false, .bool false, .bool false, .bool false, .bool false, .bool false, .bool false, .bool false, .bool false, .bool false, .bool false, .bool false, .bool false] kS kI rfl kO ?_))
    skip
    obtain ⟨w_6, hw6⟩ : ∃ W, w_5.setRow w_4.heap.size #[.bool false, .bool false, .bool false, .bool false, .bool false, .bool false, .bool false, .bool false, .bool false, .bool false, .bool false, .bool false, .bool false, .bool false, .bool false, .bool false] = W := ⟨_, rfl⟩
    rw [hw6] at kS2 bV2 ⊢
    obtain ⟨bs, hbs⟩ : ∃ b, b = w_4.heap.size := ⟨_, rfl⟩
    have LBS := Lib.hid (show w_4.heap.size ≤ bs by omega)
    rw [← hbs] at kS2
    simp only [← hbs]
    have KS5 := Lib.hid kS2
    have BV := Lib.hid bV2
    clear hV hw6 hbs kS kS2 bV bV2 HV kI kO
    skip
    go_loopw [43] (fun iv wr => ∃ j : Nat, j ≤ nU ∧ iv = .int .i64 j ∧ Blk wr bs 60 (setA ((finN Ls).take j)) ∧ Below w_4.heap.size w_4 wr) (fun iv _ => nU - (intOf iv).toNat)
    case atStart => exact ⟨0, Nat.zero_le _, rfl, KS5.out, BV.out⟩
    case round =>
      obtain ⟨j, hj, rfl, hks, hbr⟩ := hrel
      have KS90 := Lib.hid hks
      clear hks KS5 BV
      have K90 := Lib.hid (K4.out.next hbr)
      have I90 := Lib.hid (I4.out.next hbr)
      have B90 := Lib.hid (B4.out.trans (hbr.mono B4.out.size))
      have BQ90 := Lib.hid hbr
      have U90 := Lib.hid (U4.out.next hbr)
      clear hbr
      by_cases hlt : j < nU
      · obtain ⟨u, hu, hg, htk⟩ := finI_get (l := Ls) (k := j) (by rw [← HN.out]; exact hlt)
        obtain ⟨bb, oo, eA, _, hcell⟩ := U90.out.at_.1.at_ hlt
        rw [HUL.out, hg] at hcell
        subst eA
        have HTK := Lib.hid htk
        have hc := (KS90.out.cell u).trans (setA_get (by omega))
        have hf := KS90.out.frozen u
        have t0 : (0 : Int) ≤ (u : Int) := by omega
        have t1 : (u : Int) < 16 := by omega
        clear hg htk
        go_wp2
        go_roundw
        case rel =>
          refine ⟨j + 1, by omega, by go_num, ?_, BQ90.out.setCell (p := ⟨bs, u, none⟩) LBS.out _⟩
          have := KS90.out.set_ u (.bool true)
          rw [setA_set] at this
          rw [HTK.out]
          exact this
        case measure => simp [intOf]; omega
      · have KS90 := Lib.hid (show Blk wr bs 60 (setA (finN Ls)) by have := KS90.out; rw [list_take_all HLN.out hlt] at this; exact this)
        obtain ⟨ws, rfl⟩ : ∃ ws, ws = wr := ⟨_, rfl⟩
        clear BQ90
        go_wp2_with (fail)
        clear hlt
        go_loopw [8] (fun nv wr => ∃ i p : Nat, i ≤ kk ∧ nv = .int .i64 p ∧ Hid (p = 2 ^ i) ∧ p ≤ nU ∧ wr = ws) (fun nv _ => nU - (intOf nv).toNat)
        case atStart => exact ⟨0, 1, Nat.zero_le _, rfl, Lib.hid rfl, hpos, rfl⟩
        case round =>
          obtain ⟨i, p, hi, rfl, hp, hpn, rfl⟩ := hrel
          obtain ⟨ws, rfl⟩ : ∃ ws, ws = wr := ⟨_, rfl⟩
          have hp1 : 1 ≤ p := by rw [hp.out]; exact Nat.one_le_two_pow
          by_cases hlt : p < nU
          · have hik : i < kk := by
              rcases Nat.lt_or_ge i kk with h | h
              · exact h
              · have h2 : i = kk := by omega
                subst h2
                have := hp.out
                have := HKK.out
                omega
            have hp2 : 2 * p = 2 ^ (i + 1) := by rw [Nat.pow_succ, ← hp.out]; omega
            have hle2 : 2 * p ≤ nU := by rw [hp2, HKK.out]; exact Nat.pow_le_pow_right (by omega) hik
            have HP2 := Lib.hid hp2
            have HL2 := Lib.hid hle2
            have bp : p ≤ 16 := by omega
            clear hp2 hle2
            go_wp2
            go_roundw
            case rel => exact ⟨i + 1, 2 * p, by omega, by go_num, HP2, HL2.out, by first | rfl | trivial⟩
            case measure => simp [intOf]; omega
          · have hpe : p = nU := by omega
            subst hpe
            clear hp hp1 hpn
            go_wp2_with (fail)
            clear hlt
            go_loopw [58] (fun iv wr => ∃ j : Nat, j ≤ p ∧ iv = .int .i64 j ∧ Below ws.heap.size ws wr) (fun iv _ => p - (intOf iv).toNat)
            case atStart => exact ⟨0, Nat.zero_le _, rfl, Below.refl _ _⟩
            case round =>
              obtain ⟨j2, hj2, rfl, hbr⟩ := hrel
              have K91 := Lib.hid (K90.out.next hbr)
              have I91 := Lib.hid (I90.out.next hbr)
              have B91 := Lib.hid (B90.out.trans (hbr.mono B90.out.size))
              have BQ91 := Lib.hid hbr
              have U91 := Lib.hid (U90.out.next hbr)
              have KS91 := Lib.hid (KS90.out.next hbr)
              clear hbr
              by_cases hlt : j2 < p
              · obtain ⟨ue, hue, hg, _⟩ := finI_get (l := Ls) (k := j2) (by rw [← HN.out]; exact hlt)
                have hun : tabOf Y (ue * m + ue) = ue := (HMEM.out ue hue).1 (decide_eq_true (by
                  have h1 : j2 < Ls.length := by rw [← HN.out]; exact hlt
                  have h2 : ue = (Ls[j2]).1 := by have := finI_get_val h1; rw [hg] at this; omega
                  rw [h2]
                  exact List.mem_map.2 ⟨Ls[j2], List.getElem_mem h1, rfl⟩))
                obtain ⟨bb, oo, eA, _, hcell⟩ := U91.out.at_.1.at_ hlt
                rw [HUL.out, hg] at hcell
                have HUN := Lib.hid hun
                clear hg hun
                obtain ⟨ng, lng, _, hng0⟩ := R.out.negEx hue
                obtain ⟨rs, hrs⟩ : ∃ s, tabOf X (e * m + ng) = s := ⟨_, rfl⟩
                have lrs : rs < m := by rw [← hrs]; exact R.out.sc he lng
                obtain ⟨r1, r2⟩ := R.out.idem_rest (a := ⟨ue, hue⟩) (n := ⟨ng, lng⟩) (Fin.ext HUN.out) (Fin.ext hng0)
                have hr1 : decide (rs ∈ finN Ls) = true := (HMEM.out rs lrs).2 (by have := congrArg Fin.val r1; simp only [RTab.M, RTab.A, RTab.o] at this; rw [hrs] at this; exact this)
                have hr2 : tabOf Y (ue * m + rs) = 0 := by have := congrArg Fin.val r2; simp only [RTab.M, RTab.A, RTab.o, RTab.t] at this; rw [hrs] at this; exact this
                clear r1 r2
                have G1 := Lib.hid (show ∀ u, RIn u (some ⟨b1, o1, none⟩) q ca (some ⟨b2, o2, none⟩) q cb X Y → Calls Try.prog 77 #[.agg #[.int .i64 m, .int .i64 e, .slice (some ⟨b1, o1, none⟩) q ca, .slice (some ⟨b2, o2, none⟩) q cb], .int .i64 ue] u fun e' w' => e' = .returned (.int .i64 ng) ∧ Below u.heap.size u w' from fun u h => c_neg h _ _ (v_neg V1.out hue lng hng0 rfl rfl))
                have G2 := Lib.hid (show ∀ u, RIn u (some ⟨b1, o1, none⟩) q ca (some ⟨b2, o2, none⟩) q cb X Y → Calls Try.prog 39 #[.agg #[.int .i64 m, .int .i64 e, .slice (some ⟨b1, o1, none⟩) q ca, .slice (some ⟨b2, o2, none⟩) q cb], .int .i64 e, .int .i64 ng] u fun e' w' => e' = .returned (.int .i64 rs) ∧ Below u.heap.size u w' from fun u h => c_frAdd h V1.out he lng hrs rfl rfl rfl)
                have G3 := Lib.hid (show ∀ u, RIn u (some ⟨b1, o1, none⟩) q ca (some ⟨b2, o2, none⟩) q cb X Y → Calls Try.prog 40 #[.agg #[.int .i64 m, .int .i64 e, .slice (some ⟨b1, o1, none⟩) q ca, .slice (some ⟨b2, o2, none⟩) q cb], .int .i64 ue, .int .i64 rs] u fun e' w' => e' = .returned (.int .i64 0) ∧ Below u.heap.size u w' from fun u h => c_frMul h V1.out hue lrs hr2 rfl rfl rfl)
                have HR1 := Lib.hid hr1
                have brs : (rs : Int) < 16 := by omega
                clear hrs hr2 hng0 hr1
                have HCE := Lib.hid eA
                subst eA
                have c0 := K91.out.cell 0
                have c1 := K91.out.cell 1
                have c2 := K91.out.cell 2
                have c3 := K91.out.cell 3
                simp at c0 c1 c2 c3
                go_wp2_with (fail)
                refine wp_region_ext (by kernel_rfl) (by kernel_rfl) ?_
                repeat (go_big_quiet_step (first
                  | (go_at_call 77; with_reducible refine calls_ext (G1.out _ (I91.out.ext _)))
                  | (go_at_call 39; with_reducible refine calls_ext (G2.out _ (I91.out.ext _)))
                  | fail))
                refine wpQuiet_nil ?_
                intro w_92 hb_92
                have BQ92 := Lib.hid (BQ91.out.trans (hb_92.mono BQ91.out.size))
                have U92 := Lib.hid (U91.out.next hb_92)
                have KS92 := Lib.hid (KS91.out.next hb_92)
                have K92 := Lib.hid (K91.out.next hb_92)
                have I92 := Lib.hid (I91.out.next hb_92)
                have B92 := Lib.hid (B91.out.trans (hb_92.mono B91.out.size))
                clear hb_92 c0 c1 c2 c3
                have c0 := K92.out.cell 0
                have c1 := K92.out.cell 1
                have c2 := K92.out.cell 2
                have c3 := K92.out.cell 3
                simp at c0 c1 c2 c3
                have hcr := (KS92.out.cell (rs)).trans (set_at (b := true) (by omega) HR1.out)
                go_wp2_with (fail)
                refine (G3.out _ I92.out).mono ?_
                rintro e w_93 ⟨rfl, hb_93⟩
                clear hcr hcell
                have BQ93 := Lib.hid (BQ92.out.trans (hb_93.mono BQ92.out.size))
                have U93 := Lib.hid (U92.out.next hb_93)
                have KS93 := Lib.hid (KS92.out.next hb_93)
                have K93 := Lib.hid (K92.out.next hb_93)
                have I93 := Lib.hid (I92.out.next hb_93)
                have B93 := Lib.hid (B92.out.trans (hb_93.mono B92.out.size))
                clear hb_93 c0 c1 c2 c3
                have c0 := K93.out.cell 0
                have c1 := K93.out.cell 1
                have c2 := K93.out.cell 2
                have c3 := K93.out.cell 3
                simp at c0 c1 c2 c3
                go_wp2_with (fail)
                go_loopw [82] (fun iv wr => ∃ j : Nat, j ≤ p ∧ iv = .int .i64 j ∧ Below w_93.heap.size w_93 wr) (fun iv _ => p - (intOf iv).toNat)
                case atStart => exact ⟨0, Nat.zero_le _, rfl, Below.refl _ _⟩
                case round =>
                  clear c0 c1 c2 c3
                  obtain ⟨x, hx, rfl, hbr⟩ := hrel
                  have BO := Lib.hid (BQ93.out.trans (hbr.mono BQ93.out.size))
                  have K95 := Lib.hid (K93.out.next hbr)
                  have I95 := Lib.hid (I93.out.next hbr)
                  have B95 := Lib.hid (B93.out.trans (hbr.mono B93.out.size))
                  have BQ95 := Lib.hid hbr
                  have U95 := Lib.hid (U93.out.next hbr)
                  have KS95 := Lib.hid (KS93.out.next hbr)
                  clear hbr
                  by_cases hlx : x < p
                  · obtain ⟨be, hbe, hg, _⟩ := finI_get (l := Ls) (k := x) (by rw [← HN.out]; exact hlx)
                    have hbn : tabOf Y (be * m + be) = be := (HMEM.out be hbe).1 (decide_eq_true (by
                      have h1 : x < Ls.length := by rw [← HN.out]; exact hlx
                      have h2 : be = (Ls[x]).1 := by have := finI_get_val h1; rw [hg] at this; omega
                      rw [h2]
                      exact List.mem_map.2 ⟨Ls[x], List.getElem_mem h1, rfl⟩))
                    obtain ⟨bb2, oo2, eB, _, hcell⟩ := U95.out.at_.1.at_ hlx
                    rw [HUL.out, hg] at hcell
                    injection eB with eB
                    injection eB with eB1 eB2
                    subst eB1 eB2
                    obtain ⟨pv, hpv⟩ : ∃ s, tabOf Y (ue * m + be) = s := ⟨_, rfl⟩
                    have lpv : pv < m := by rw [← hpv]; exact R.out.pc hue hbe
                    have hpn : decide (pv ∈ finN Ls) = true := (HMEM.out pv lpv).2 (by
                      have h1 := congrArg Fin.val (R.out.mm4 ⟨ue, hue⟩ ⟨be, hbe⟩ ⟨ue, hue⟩ ⟨be, hbe⟩)
                      simp only [RTab.M] at h1
                      rw [HUN.out, hbn, hpv] at h1
                      exact h1)
                    have P1 := Lib.hid (show ∀ u, RIn u (some ⟨b1, o1, none⟩) q ca (some ⟨b2, o2, none⟩) q cb X Y → Calls Try.prog 40 #[.agg #[.int .i64 m, .int .i64 e, .slice (some ⟨b1, o1, none⟩) q ca, .slice (some ⟨b2, o2, none⟩) q cb], .int .i64 ue, .int .i64 be] u fun e' w' => e' = .returned (.int .i64 pv) ∧ Below u.heap.size u w' from fun u h => c_frMul h V1.out hue hbe hpv rfl rfl rfl)
                    have HPN := Lib.hid hpn
                    have b1_ : (pv : Int) < 16 := by omega
                    clear hpn hpv hg hbn
                    have c0 := K95.out.cell 0
                    have c1 := K95.out.cell 1
                    have c2 := K95.out.cell 2
                    have c3 := K95.out.cell 3
                    simp at c0 c1 c2 c3
                    go_wp2_with (fail)
                    refine (P1.out _ I95.out).mono ?_
                    rintro e w_96 ⟨rfl, hb_96⟩
                    have BQ96 := Lib.hid (BQ95.out.trans (hb_96.mono BQ95.out.size))
                    have U96 := Lib.hid (U95.out.next hb_96)
                    have KS96 := Lib.hid (KS95.out.next hb_96)
                    have K96 := Lib.hid (K95.out.next hb_96)
                    have I96 := Lib.hid (I95.out.next hb_96)
                    have B96 := Lib.hid (B95.out.trans (hb_96.mono B95.out.size))
                    clear hb_96 c0 c1 c2 c3
                    have c0 := K96.out.cell 0
                    have c1 := K96.out.cell 1
                    have c2 := K96.out.cell 2
                    have c3 := K96.out.cell 3
                    simp at c0 c1 c2 c3
                    have hcp := (KS96.out.cell (pv)).trans (set_at (b := true) (by omega) HPN.out)
                    go_wp2
                    go_roundw
                    case rel => exact ⟨x + 1, by omega, by go_num, BQ96.out⟩
                    case measure => simp [intOf]; omega
                  · go_wp2
                    go_roundw
                    case rel => exact ⟨j2 + 1, by omega, by go_num, BO.out⟩
                    case measure => simp [intOf]; omega
              · have h0 := H0.out
                have h1 := H1.out
                have hc0 := (KS91.out.cell (0)).trans (set_at (b := true) (by omega) (decide_eq_true h0))
                have hc1 := (KS91.out.cell (e)).trans (set_at (b := true) (by omega) (decide_eq_true h1))
                have b1_ : (e : Int) < 16 := by omega
                clear h0 h1
                have c0 := K91.out.cell 0
                have c1 := K91.out.cell 1
                have c2 := K91.out.cell 2
                have c3 := K91.out.cell 3
                simp at c0 c1 c2 c3
                go_wp2_with (fail)
                go_ret
                exact ⟨rfl, B91.out⟩

end Go.Proofs.Ytpideooccccfgaa
