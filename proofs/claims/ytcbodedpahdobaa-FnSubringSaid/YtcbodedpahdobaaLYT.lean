
import Derived.Test.YtcbodedpahdobaaLWE
import Derived.Test.YtcbodedpahdobaaLEC
import Derived.Test.YtcbodedpahdobaaMY
import Derived.Test.YtcbodedpahdobaaMH
/- The walk of the law FnSubring. -/
namespace Go.Proofs.Ytcbodedpahdobaa
open Go.RowKit
set_option maxRecDepth 100000

theorem eqL_own {xs : List Int} : eqL xs xs = true := eqL_true rfl fun _ _ => rfl
theorem set_at {l : List Nat} {i : Nat} {b : Bool} (h : i < 16) (hb : decide (i ∈ l) = b) : (setA l)[i]? = some (.bool b) := by rw [setA_get h, hb]
theorem list_take_all {l : List Nat} {j n : Nat} (h : l.length = n) (hj : ¬ j < n) : l.take j = l := List.take_of_length_le (by omega)
set_option maxHeartbeats 16000000 in
theorem fnSubring_walk (A : Option Addr) (n c : Nat) (w : World) (hb : Byts w w.heap.size A n) (hc : n ≤ c) (hc2 : c ≤ 9223372036854775807) :
    Calls Try.prog 4 #[.slice A n c] w fun e w' => e = .returned (.bool true) ∧ Below w.heap.size w w' := by
  by_cases hbig : n > 1048576
  · have t0 : decide ((n : Int) > 1048576) = true := by simp; omega
    go_enter Try.func4, Try.ntmps4
    go_wp2_with (fail)
    go_ret
    exact ⟨rfl, Below.refl _ _⟩
  have hn : n ≤ 1048576 := by omega
  have t0 : decide ((n : Int) > 1048576) = false := by simp; omega
  go_enter Try.func4, Try.ntmps4
  go_wp2_with (fail)
  refine (drawSubringOf_any A n c w hb hn hc hc2).mono ?_
  rintro e w_0 ⟨v, FA, nF, cF, Z, rfl, hA, hF, hl3, hwd, hb_0⟩
  obtain ⟨N, O, A1, A2, q, ca, cb, X, Y, rfl, hI, _, _⟩ := hA.rin
  clear hA
  have B0 := Lib.hid (hb_0)
  have F0 := Lib.hid (hF)
  clear hb_0 hF
  obtain ⟨w_1, hV⟩ : ∃ V, World.alloc w_0 (.cells #[.int .i64 N, .int .i64 O, .slice A1 q ca, .slice A2 q cb] 25) = V := ⟨_, rfl⟩
  have hb_1 : Below (World.heap w_0).size w_0 w_1 := by subst hV; exact (Below.refl _ _).alloc (Nat.le_refl _) _
  obtain ⟨bR, hbx⟩ : ∃ b, b = (World.heap w_0).size := ⟨_, rfl⟩
  have KR1 := Lib.hid (show Blk w_1 bR 25 #[.int .i64 N, .int .i64 O, .slice A1 q ca, .slice A2 q cb] by subst hV hbx; exact Blk.new w_0 _ _)
  have B1 := Lib.hid (B0.out.trans (hb_1.mono B0.out.size))
  have F1 := Lib.hid (F0.out.next hb_1)
  have IR1 := Lib.hid (hI.next hb_1)
  clear hb_1 hI
  go_upto_region 4 with (fail)
  rw [← hbx]
  clear hV hbx
  have cR0 := KR1.out.cell 0
  have cR1 := KR1.out.cell 1
  have cR2 := KR1.out.cell 2
  have cR3 := KR1.out.cell 3
  simp at cR0 cR1 cR2 cR3
  go_wp2_with (fail)
  refine (sub_any N O A1 A2 FA q ca q cb nF cF X Y Z _ IR1.out.hX IR1.out.hY F1.out.at_.1 IR1.out.hla IR1.out.hlb (by have := F1.out.at_.2.2; omega) IR1.out.hca IR1.out.hcb).mono ?_
  rintro e w_2 ⟨v, rfl, hv, hb_2⟩
  have hv0 := hv
  obtain ⟨A3, l3, c3, rfl, _⟩ := hv0
  clear cR0 cR1 cR2 cR3
  have B2 := Lib.hid (B1.out.trans (hb_2.mono B1.out.size))
  have F2 := Lib.hid (F1.out.next hb_2)
  have KR2 := Lib.hid (KR1.out.next hb_2)
  have IR2 := Lib.hid (IR1.out.next hb_2)
  have U2 := Lib.hid (hv)
  clear hb_2 hv
  have cR0 := KR2.out.cell 0
  have cR1 := KR2.out.cell 1
  have cR2 := KR2.out.cell 2
  have cR3 := KR2.out.cell 3
  simp at cR0 cR1 cR2 cR3
  go_wp2_with (fail)
  refine (ssub_any N O A1 A2 FA q ca q cb nF cF X Y Z _ IR2.out.hX IR2.out.hY F2.out.at_.1 IR2.out.hla IR2.out.hlb (by have := F2.out.at_.2.2; omega) IR2.out.hca IR2.out.hcb).mono ?_
  rintro e w_3 ⟨v, rfl, hv, hb_3⟩
  have hv0 := hv
  obtain ⟨A4, l4, c4, rfl, _⟩ := hv0
  clear cR0 cR1 cR2 cR3
  have B3 := Lib.hid (B2.out.trans (hb_3.mono B2.out.size))
  have F3 := Lib.hid (F2.out.next hb_3)
  have KR3 := Lib.hid (KR2.out.next hb_3)
  have IR3 := Lib.hid (IR2.out.next hb_3)
  have U3 := Lib.hid (U2.out.next hb_3)
  have T3 := Lib.hid (hv)
  clear hb_3 hv
  cases hok : ideB N O X Y Z
  · skip
    go_wp2_with (fail)
    refine (frSame_any A3 A4 l3 l4 c3 c4 _ _ _ _ _ U3.out.at_.1 T3.out.at_.1 (by have := U3.out.at_.2.2; omega) (by have := T3.out.at_.2.2; omega)).mono ?_
    rw [eqL_own]
    rintro e w_4 ⟨rfl, hb_4⟩
    have B4 := Lib.hid (B3.out.trans (hb_4.mono B3.out.size))
    have F4 := Lib.hid (F3.out.next hb_4)
    have KR4 := Lib.hid (KR3.out.next hb_4)
    have IR4 := Lib.hid (IR3.out.next hb_4)
    have U4 := Lib.hid (U3.out.next hb_4)
    have T4 := Lib.hid (T3.out.next hb_4)
    clear hb_4
    go_wp2_with (fail)
    refine (frSame_any A3 A4 l3 l4 c3 c4 _ _ _ _ _ U4.out.at_.1 T4.out.at_.1 (by have := U4.out.at_.2.2; omega) (by have := T4.out.at_.2.2; omega)).mono ?_
    rw [eqL_own]
    rintro e w_5 ⟨rfl, hb_5⟩
    have B5 := Lib.hid (B4.out.trans (hb_5.mono B4.out.size))
    have F5 := Lib.hid (F4.out.next hb_5)
    have KR5 := Lib.hid (KR4.out.next hb_5)
    have IR5 := Lib.hid (IR4.out.next hb_5)
    have U5 := Lib.hid (U4.out.next hb_5)
    have T5 := Lib.hid (T4.out.next hb_5)
    clear hb_5
    go_wp2_with (fail)
    go_ret
    exact ⟨rfl, B5.out⟩
  · skip
    go_wp2_with (fail)
    refine (frSame_any A3 A4 l3 l4 c3 c4 _ _ _ _ _ U3.out.at_.1 T3.out.at_.1 (by have := U3.out.at_.2.2; omega) (by have := T3.out.at_.2.2; omega)).mono ?_
    rw [eqL_own]
    rintro e w_4 ⟨rfl, hb_4⟩
    have B4 := Lib.hid (B3.out.trans (hb_4.mono B3.out.size))
    have F4 := Lib.hid (F3.out.next hb_4)
    have KR4 := Lib.hid (KR3.out.next hb_4)
    have IR4 := Lib.hid (IR3.out.next hb_4)
    have U4 := Lib.hid (U3.out.next hb_4)
    have T4 := Lib.hid (T3.out.next hb_4)
    clear hb_4
    obtain ⟨m, e, b1, o1, b2, o2, rfl, rfl, rfl, rfl, hr, _, lX, lY, gX, gY⟩ := valid_data (ide_data hok).1 IR4.out.hX IR4.out.hY IR4.out.hca IR4.out.hcb
    have hm := hr.hm
    have hm' := hr.hm'
    have he := hr.he
    obtain ⟨hUL0, hI, R⟩ := sbr_list hok
    have hself := sbr_again hok
    have hnil := sbr_nil hok
    have hhold := fun x (hx : x ∈ Z) => sbr_holds hok hx
    have hdvd := R.sbr_dvd hI
    have hpos := R.sbr_pos hI
    obtain ⟨p, hp⟩ : ∃ p, subG m (tabOf X) (tabOf Y) e (setL Z) = p := ⟨_, rfl⟩
    rw [hp] at hUL0 hI hdvd hpos
    obtain ⟨Ls, hLs⟩ : ∃ L : List (Fin m), selTo m p m = L := ⟨_, rfl⟩
    have hmem : ∀ x, decide (x ∈ finN Ls) = p x := fun x => by
      have h1 : x ∈ finN Ls ↔ x < m ∧ p x = true := by rw [← hLs]; exact lst_in
      cases hpx : p x
      · exact decide_eq_false fun h => by have := (h1.1 h).2; rw [hpx] at this; cases this
      · exact decide_eq_true (h1.2 ⟨hI.lt x hpx, hpx⟩)
    have hUL : lstP m p = finI Ls := by rw [← hLs]; rfl
    rw [hUL] at hUL0 hdvd hpos
    have hn : l3 = Ls.length := by rw [← finI_len (l := Ls), ← hUL0]; exact U4.out.at_.1.1.symm
    rw [finI_len, ← hn] at hdvd hpos
    have hle : l3 ≤ m := Nat.le_of_dvd hm hdvd
    have HUL := Lib.hid hUL0
    have HI := Lib.hid hI
    have HSELF := Lib.hid hself
    have HNIL := Lib.hid hnil
    have HHOLD := Lib.hid hhold
    have HDVD := Lib.hid hdvd
    have HMEM := Lib.hid hmem
    have HN := Lib.hid hn
    have HOK := Lib.hid hok
    have VV := Lib.hid (ide_data hok).1
    have RR := Lib.hid R
    clear hUL0 hI hself hnil hhold hdvd hmem hn hok hp hLs hUL R
    obtain ⟨w_100, hV⟩ : ∃ V, w_4.alloc (.cells #[.bool false, .bool false, .bool false, .bool false, .bool false, .bool false, .bool false, .bool false, .bool false, .bool false, .bool false, .bool false, .bool false, .bool false, .bool false, .bool false] 31) = V := ⟨_, rfl⟩
    have bV : Below w_4.heap.size w_4 w_100 := by subst hV; exact (Below.refl _ _).alloc (Nat.le_refl _) _
    have kS : Blk w_100 w_4.heap.size 31 #[.bool false, .bool false, .bool false, .bool false, .bool false, .bool false, .bool false, .bool false, .bool false, .bool false, .bool false, .bool false, .bool false, .bool false, .bool false, .bool false] := by subst hV; exact Blk.new w_4 _ _
    have kS2 : Blk (w_100.setRow w_4.heap.size #[.bool false, .bool false, .bool false, .bool false, .bool false, .bool false, .bool false, .bool false, .bool false, .bool false, .bool false, .bool false, .bool false, .bool false, .bool false, .bool false]) w_4.heap.size 31 (setA []) := by rw [setA_nil]; exact setRow_heap _ _ _ _ _ _ kS
    have bV2 : Below w_4.heap.size w_4 (w_100.setRow w_4.heap.size #[.bool false, .bool false, .bool false, .bool false, .bool false, .bool false, .bool false, .bool false, .bool false, .bool false, .bool false, .bool false, .bool false, .bool false, .bool false, .bool false]) := below_setRow bV (Nat.le_refl _) _
    have HV := Lib.hid hV
    have kI : (Try.prog.info? 31).map (·.size) = some (#[.bool false, .bool false, .bool false, .bool false, .bool false, .bool false, .bool false, .bool false, .bool false, .bool false, .bool false, .bool false, .bool false, .bool false, .bool false, .bool false] : Array Value).size := by kernel_rfl
    have kO : (#[.bool false, .bool false, .bool false, .bool false, .bool false, .bool false, .bool false, .bool false, .bool false, .bool false, .bool false, .bool false, .bool false, .bool false, .bool false, .bool false] : Array Value).all (·.oneCell') = true := by rw [← setA_nil]; exact setA_one
    go_wp2_with (first | (refine wpList_store_row rfl 31 (.tmp 9) (.tmp 63) rfl w_4.heap.size #[.bool false, .bool false, .bool false, .bool false, .bool false, .bool false, .bool false, .bool false, .bool false, .bool false, .bool false, .bool false, .bool false, .bool false, .bool false, .bool false] rfl rfl _ #[.bool false, .bool false, .bool false, .bool false, .bool false, .bool false, .bool false, .bool false, .bool false, .bool false, .bool false, .bool false, .bool false, .bool false, .bool false, .bool false] kS kI rfl kO ?_))
    obtain ⟨w_101, hw6⟩ : ∃ W, w_100.setRow w_4.heap.size #[.bool false, .bool false, .bool false, .bool false, .bool false, .bool false, .bool false, .bool false, .bool false, .bool false, .bool false, .bool false, .bool false, .bool false, .bool false, .bool false] = W := ⟨_, rfl⟩
    rw [hw6] at kS2 bV2 ⊢
    obtain ⟨bs, hbs⟩ : ∃ b, b = w_4.heap.size := ⟨_, rfl⟩
    have LBS := Lib.hid (show w_4.heap.size ≤ bs by omega)
    rw [← hbs] at kS2
    simp only [← hbs]
    have KS5 := Lib.hid kS2
    have BV := Lib.hid bV2
    clear hV hw6 hbs kS kS2 bV bV2 HV kI kO
    go_loopw [66] (fun iv wr => ∃ j : Nat, j ≤ l3 ∧ iv = .int .i64 j ∧ Blk wr bs 31 (setA ((finN Ls).take j)) ∧ Below w_4.heap.size w_4 wr) (fun iv _ => l3 - (intOf iv).toNat)
    case atStart => exact ⟨0, Nat.zero_le _, rfl, KS5.out, BV.out⟩
    case round =>
      obtain ⟨j, hj, rfl, hks, hbr⟩ := hrel
      have KS := Lib.hid hks
      have BJ := Lib.hid hbr
      clear hks KS5 BV
      have B110 := Lib.hid (B4.out.trans (hbr.mono B4.out.size))
      have F110 := Lib.hid (F4.out.next hbr)
      have KR110 := Lib.hid (KR4.out.next hbr)
      have IR110 := Lib.hid (IR4.out.next hbr)
      have U110 := Lib.hid (U4.out.next hbr)
      have T110 := Lib.hid (T4.out.next hbr)
      clear hbr
      by_cases hlt : j < l3
      · obtain ⟨u, hu, hg, htk⟩ := finI_get (l := Ls) (k := j) (by rw [← HN.out]; exact hlt)
        have hU := U110.out.at_.1
        rw [HUL.out] at hU
        obtain ⟨bb, oo, eA, _, hcell⟩ := hU.at_ hlt
        rw [hg] at hcell
        subst eA
        have HTK := Lib.hid htk
        have hc := (KS.out.cell u).trans (setA_get (by omega))
        have hf := KS.out.frozen u
        have t0 : (0 : Int) ≤ (u : Int) := by omega
        have t1 : (u : Int) < 16 := by omega
        clear htk
        have hrel : Blk (wr.setCell ⟨bs, u, none⟩ (.bool true)) bs 31 (setA ((finN Ls).take (j + 1))) := by
          have := KS.out.set_ u (.bool true)
          rw [setA_set] at this
          rw [HTK.out]
          exact this
        have KS2 := Lib.hid hrel
        clear hrel hg hU
        go_wp2
        go_roundw
        case rel => exact ⟨j + 1, by omega, by go_num, KS2.out, BJ.out.setCell (p := ⟨bs, u, none⟩) LBS.out _⟩
        case measure => simp [intOf]; omega
      · have KS110 := Lib.hid (show Blk wr bs 31 (setA (finN Ls)) by have := KS.out; rw [list_take_all (show (finN Ls).length = l3 by rw [HN.out]; simp [finN]) hlt] at this; exact this)
        obtain ⟨w_110, rfl⟩ : ∃ ws, ws = wr := ⟨_, rfl⟩
        clear BJ KS
        go_wp2_with (fail)
        clear hlt
        go_loopw [75] (fun iv wr => ∃ j : Nat, j ≤ l3 ∧ iv = .int .i64 j ∧ Below w_110.heap.size w_110 wr) (fun iv _ => l3 - (intOf iv).toNat)
        case atStart => exact ⟨0, Nat.zero_le _, rfl, Below.refl _ _⟩
        case round =>
          obtain ⟨j2, hj2, rfl, hbr⟩ := hrel
          have BJ := Lib.hid hbr
          have B120 := Lib.hid (B110.out.trans (hbr.mono B110.out.size))
          have F120 := Lib.hid (F110.out.next hbr)
          have KR120 := Lib.hid (KR110.out.next hbr)
          have IR120 := Lib.hid (IR110.out.next hbr)
          have U120 := Lib.hid (U110.out.next hbr)
          have T120 := Lib.hid (T110.out.next hbr)
          have KS120 := Lib.hid (KS110.out.next hbr)
          clear hbr
          by_cases hlt : j2 < l3
          · obtain ⟨ue, hu, hg, _⟩ := finI_get (l := Ls) (k := j2) (by rw [← HN.out]; exact hlt)
            have hpu : p ue = true := by
              rw [← HMEM.out]
              have h1 : j2 < Ls.length := by rw [← HN.out]; exact hlt
              have h2 : ue = (Ls[j2]).1 := by have := finI_get_val h1; rw [hg] at this; omega
              rw [h2]
              exact decide_eq_true (List.mem_map.2 ⟨Ls[j2], List.getElem_mem h1, rfl⟩)
            have hU := U120.out.at_.1
            rw [HUL.out] at hU
            obtain ⟨bb, oo, eA, _, hcell⟩ := hU.at_ hlt
            rw [hg] at hcell
            subst eA
            have HPU := Lib.hid hpu
            clear hg hpu hU
            obtain ⟨nv, hnv, hng⟩ := RR.out.sbr_neg HI.out HPU.out
            have lnv : nv < m := HI.out.lt nv hnv
            have HNV := Lib.hid ((HMEM.out nv).trans hnv)
            have HNG := Lib.hid hng
            clear hnv hng
            go_wp2_with (fail)
            go_loopw [81] (fun iv wr => ∃ j : Nat, j ≤ l3 ∧ iv = .int .i64 j ∧ Below w_110.heap.size w_110 wr) (fun iv _ => l3 - (intOf iv).toNat)
            case atStart => exact ⟨0, Nat.zero_le _, rfl, BJ.out⟩
            case round =>
              obtain ⟨j4, hj4, rfl, hbr⟩ := hrel
              have BX := Lib.hid hbr
              have F130 := Lib.hid (F110.out.next hbr)
              have KR130 := Lib.hid (KR110.out.next hbr)
              have IR130 := Lib.hid (IR110.out.next hbr)
              have U130 := Lib.hid (U110.out.next hbr)
              have T130 := Lib.hid (T110.out.next hbr)
              have KS130 := Lib.hid (KS110.out.next hbr)
              have B130 := Lib.hid (B110.out.trans (hbr.mono B110.out.size))
              clear hbr
              by_cases hlx : j4 < l3
              · obtain ⟨x, hx, hg, _⟩ := finI_get (l := Ls) (k := j4) (by rw [← HN.out]; exact hlx)
                have hpx : p x = true := by
                  rw [← HMEM.out]
                  have h1 : j4 < Ls.length := by rw [← HN.out]; exact hlx
                  have h2 : x = (Ls[j4]).1 := by have := finI_get_val h1; rw [hg] at this; omega
                  rw [h2]
                  exact decide_eq_true (List.mem_map.2 ⟨Ls[j4], List.getElem_mem h1, rfl⟩)
                have hU := U130.out.at_.1
                rw [HUL.out] at hU
                obtain ⟨bb2, oo2, eA, _, hcell⟩ := hU.at_ hlx
                rw [hg] at hcell
                injection eA with eA
                injection eA with e1 e2
                subst e1 e2
                clear hg hU
                obtain ⟨pv, hpv⟩ : ∃ s, tabOf Y (ue * m + x) = s := ⟨_, rfl⟩
                have lpv : pv < m := by rw [← hpv]; exact RR.out.pc hu hx
                have hpn : decide (pv ∈ finN Ls) = true := (HMEM.out pv).trans (by rw [← hpv]; exact HI.out.t ue x HPU.out hpx)
                obtain ⟨sv, hsv⟩ : ∃ s, tabOf X (ue * m + x) = s := ⟨_, rfl⟩
                have lsv : sv < m := by rw [← hsv]; exact RR.out.sc hu hx
                have hsn : decide (sv ∈ finN Ls) = true := (HMEM.out sv).trans (by rw [← hsv]; exact HI.out.s ue x HPU.out hpx)
                have HPN := Lib.hid hpn
                have HSN := Lib.hid hsn
                have HPV := Lib.hid hpv
                have HSV := Lib.hid hsv
                clear hpn hsn hpv hsv hpx
                have b1_ : (pv : Int) < 16 := by omega
                have b3_ : (sv : Int) < 16 := by omega
                have b4_ : (nv : Int) < 16 := by omega
                have cR0 := KR130.out.cell 0
                have cR1 := KR130.out.cell 1
                have cR2 := KR130.out.cell 2
                have cR3 := KR130.out.cell 3
                simp at cR0 cR1 cR2 cR3
                go_wp2_with (fail)
                refine (c_frAdd IR130.out VV.out hu hx HSV.out rfl rfl rfl).mono ?_
                rintro e w_131 ⟨rfl, hb_131⟩
                have HB131 := Lib.hid hb_131
                clear cR0 cR1 cR2 cR3
                have B131 := Lib.hid (B130.out.trans (hb_131.mono B130.out.size))
                have F131 := Lib.hid (F130.out.next hb_131)
                have KR131 := Lib.hid (KR130.out.next hb_131)
                have IR131 := Lib.hid (IR130.out.next hb_131)
                have U131 := Lib.hid (U130.out.next hb_131)
                have T131 := Lib.hid (T130.out.next hb_131)
                have KS131 := Lib.hid (KS130.out.next hb_131)
                clear hb_131
                have cR0 := KR131.out.cell 0
                have cR1 := KR131.out.cell 1
                have cR2 := KR131.out.cell 2
                have cR3 := KR131.out.cell 3
                simp at cR0 cR1 cR2 cR3
                have hcs := (KS131.out.cell (sv)).trans (set_at (b := true) (by omega) HSN.out)
                go_wp2_with (fail)
                refine (c_frMul IR131.out VV.out hu hx HPV.out rfl rfl rfl).mono ?_
                rintro e w_132 ⟨rfl, hb_132⟩
                have HB132 := Lib.hid hb_132
                clear cR0 cR1 cR2 cR3
                have B132 := Lib.hid (B131.out.trans (hb_132.mono B131.out.size))
                have F132 := Lib.hid (F131.out.next hb_132)
                have KR132 := Lib.hid (KR131.out.next hb_132)
                have IR132 := Lib.hid (IR131.out.next hb_132)
                have U132 := Lib.hid (U131.out.next hb_132)
                have T132 := Lib.hid (T131.out.next hb_132)
                have KS132 := Lib.hid (KS131.out.next hb_132)
                clear hb_132
                clear hcs
                have cR0 := KR132.out.cell 0
                have cR1 := KR132.out.cell 1
                have cR2 := KR132.out.cell 2
                have cR3 := KR132.out.cell 3
                simp at cR0 cR1 cR2 cR3
                have hcp := (KS132.out.cell (pv)).trans (set_at (b := true) (by omega) HPN.out)
                go_wp2_with (fail)
                refine (c_neg IR132.out _ _ (v_neg VV.out hu lnv HNG.out rfl rfl)).mono ?_
                rintro e w_133 ⟨rfl, hb_133⟩
                have HB133 := Lib.hid hb_133
                clear cR0 cR1 cR2 cR3
                have B133 := Lib.hid (B132.out.trans (hb_133.mono B132.out.size))
                have F133 := Lib.hid (F132.out.next hb_133)
                have KR133 := Lib.hid (KR132.out.next hb_133)
                have IR133 := Lib.hid (IR132.out.next hb_133)
                have U133 := Lib.hid (U132.out.next hb_133)
                have T133 := Lib.hid (T132.out.next hb_133)
                have KS133 := Lib.hid (KS132.out.next hb_133)
                clear hb_133
                clear hcp
                have hcn := (KS133.out.cell (nv)).trans (set_at (b := true) (by omega) HNV.out)
                go_wp2
                go_roundw
                case rel => exact ⟨j4 + 1, by omega, by go_num, ((BX.out.trans (HB131.out.mono BX.out.size)).trans (HB132.out.mono (Nat.le_trans BX.out.size HB131.out.size))).trans (HB133.out.mono (Nat.le_trans (Nat.le_trans BX.out.size HB131.out.size) HB132.out.size))⟩
                case measure => simp [intOf]; omega
              · go_wp2
                go_roundw
                case rel => exact ⟨j2 + 1, by omega, by go_num, BX.out⟩
                case measure => simp [intOf]; omega
          · obtain ⟨w_120, rfl⟩ : ∃ ws, ws = wr := ⟨_, rfl⟩
            clear BJ
            have hFn : nF ≤ 3 := by have := F120.out.at_.1.1; omega
            go_wp2_with (fail)
            clear hlt
            go_loopw [113] (fun iv wr => ∃ j : Nat, j ≤ nF ∧ iv = .int .i64 j ∧ Below w_120.heap.size w_120 wr) (fun iv _ => nF - (intOf iv).toNat)
            case atStart => exact ⟨0, Nat.zero_le _, rfl, Below.refl _ _⟩
            case round =>
              obtain ⟨j3, hj3, rfl, hbr⟩ := hrel
              have BJ := Lib.hid hbr
              have B140 := Lib.hid (B120.out.trans (hbr.mono B120.out.size))
              have F140 := Lib.hid (F120.out.next hbr)
              have KR140 := Lib.hid (KR120.out.next hbr)
              have IR140 := Lib.hid (IR120.out.next hbr)
              have U140 := Lib.hid (U120.out.next hbr)
              have T140 := Lib.hid (T120.out.next hbr)
              have KS140 := Lib.hid (KS120.out.next hbr)
              clear hbr
              by_cases hlt : j3 < nF
              · have hF := F140.out.at_.1
                have hZ : j3 < Z.length := by rw [hF.1]; exact hlt
                obtain ⟨bF, oF, eF, _, hcell⟩ := hF.at_ hlt
                subst eF
                have hz := HHOLD.out _ (List.getElem_mem hZ)
                rw [List.getElem?_eq_getElem hZ, Option.getD_some] at hcell
                rw [HUL.out, finI_N, List.mem_map] at hz
                obtain ⟨k, hk, ek⟩ := hz
                rw [← ek] at hcell
                have hkm : k < m := HI.out.lt k ((HMEM.out k).symm.trans (decide_eq_true hk))
                have hck := (KS140.out.cell (k)).trans (set_at (b := true) (by omega) (decide_eq_true hk))
                have b1_ : (k : Int) < 16 := by omega
                have b2_ : (0 : Int) ≤ (k : Int) := by omega
                clear hk ek hF hZ
                go_wp2
                go_roundw
                case rel => exact ⟨j3 + 1, by omega, by go_num, BJ.out⟩
                case measure => simp [intOf]; omega
              · obtain ⟨w_140, rfl⟩ : ∃ ws, ws = wr := ⟨_, rfl⟩
                clear BJ
                have cR0 := KR140.out.cell 0
                have cR1 := KR140.out.cell 1
                have cR2 := KR140.out.cell 2
                have cR3 := KR140.out.cell 3
                simp at cR0 cR1 cR2 cR3
                go_wp2_with (fail)
                refine (sub_any m e (some ⟨b1, o1, none⟩) (some ⟨b2, o2, none⟩) A3 q ca q cb l3 c3 X Y (sbrL m e X Y Z) _ IR140.out.hX IR140.out.hY U140.out.at_.1 IR140.out.hla IR140.out.hlb (by have := U140.out.at_.2.2; omega) IR140.out.hca IR140.out.hcb).mono ?_
                rw [HSELF.out.1, HSELF.out.2]
                rintro e w_141 ⟨v, rfl, hv, hb_141⟩
                have hv0 := hv
                obtain ⟨A5, l5, c5, rfl, _⟩ := hv0
                clear cR0 cR1 cR2 cR3
                have B141 := Lib.hid (B140.out.trans (hb_141.mono B140.out.size))
                have F141 := Lib.hid (F140.out.next hb_141)
                have KR141 := Lib.hid (KR140.out.next hb_141)
                have IR141 := Lib.hid (IR140.out.next hb_141)
                have U141 := Lib.hid (U140.out.next hb_141)
                have T141 := Lib.hid (T140.out.next hb_141)
                have KS141 := Lib.hid (KS140.out.next hb_141)
                have V141 := Lib.hid (hv)
                clear hb_141 hv
                have cR0 := KR141.out.cell 0
                have cR1 := KR141.out.cell 1
                have cR2 := KR141.out.cell 2
                have cR3 := KR141.out.cell 3
                simp at cR0 cR1 cR2 cR3
                go_wp2_with (fail)
                refine (sub_any m e (some ⟨b1, o1, none⟩) (some ⟨b2, o2, none⟩) none q ca q cb 0 0 X Y [] _ IR141.out.hX IR141.out.hY ints_nil IR141.out.hla IR141.out.hlb (by omega) IR141.out.hca IR141.out.hcb).mono ?_
                rw [HNIL.out.1]
                rintro e w_142 ⟨v, rfl, hv, hb_142⟩
                have hv0 := hv
                obtain ⟨A6, l6, c6, rfl, _⟩ := hv0
                have hl6 : ordN m (tabOf X) e = l6 := HNIL.out.2.symm.trans hv.at_.1.1
                have HL6 := Lib.hid hl6
                clear cR0 cR1 cR2 cR3
                have B142 := Lib.hid (B141.out.trans (hb_142.mono B141.out.size))
                have F142 := Lib.hid (F141.out.next hb_142)
                have KR142 := Lib.hid (KR141.out.next hb_142)
                have IR142 := Lib.hid (IR141.out.next hb_142)
                have U142 := Lib.hid (U141.out.next hb_142)
                have T142 := Lib.hid (T141.out.next hb_142)
                have KS142 := Lib.hid (KS141.out.next hb_142)
                have V142 := Lib.hid (V141.out.next hb_142)
                clear hb_142 hv hl6
                have cR0 := KR142.out.cell 0
                have cR1 := KR142.out.cell 1
                have cR2 := KR142.out.cell 2
                have cR3 := KR142.out.cell 3
                simp at cR0 cR1 cR2 cR3
                have hc0 := (KS142.out.cell (0)).trans (set_at (b := true) (by omega) ((HMEM.out 0).trans (RR.out.sub_zero HI.out)))
                have hc1 := (KS142.out.cell (e)).trans (set_at (b := true) (by omega) ((HMEM.out e).trans HI.out.o))
                have b1_ : (e : Int) < 16 := by omega
                have b2_ : (0 : Int) ≤ (e : Int) := by omega
                go_wp2_with (fail)
                refine (frSame_any A5 A3 l5 l3 c5 c3 _ _ _ _ _ V142.out.at_.1 U142.out.at_.1 (by have := V142.out.at_.2.2; omega) (by have := U142.out.at_.2.2; omega)).mono ?_
                rw [eqL_own]
                rintro e w_143 ⟨rfl, hb_143⟩
                clear cR0 cR1 cR2 cR3
                have B143 := Lib.hid (B142.out.trans (hb_143.mono B142.out.size))
                have F143 := Lib.hid (F142.out.next hb_143)
                have KR143 := Lib.hid (KR142.out.next hb_143)
                have IR143 := Lib.hid (IR142.out.next hb_143)
                have U143 := Lib.hid (U142.out.next hb_143)
                have T143 := Lib.hid (T142.out.next hb_143)
                have KS143 := Lib.hid (KS142.out.next hb_143)
                have V143 := Lib.hid (V142.out.next hb_143)
                clear hb_143
                clear hc0 hc1
                have q3 : (m : Int) % l3 = 0 := Int.emod_eq_zero_of_dvd (Int.natCast_dvd_natCast.2 HDVD.out)
                have q4 : (m : Int).tmod l3 = 0 := by rw [Int.tmod_eq_emod_of_nonneg (by omega)]; exact q3
                have n3 : ¬ l3 = 0 := by omega
                have cR0 := KR143.out.cell 0
                have cR1 := KR143.out.cell 1
                have cR2 := KR143.out.cell 2
                have cR3 := KR143.out.cell 3
                simp at cR0 cR1 cR2 cR3
                go_wp2_with (fail)
                refine (c_char IR143.out _ (v_char VV.out HL6.out)).mono ?_
                rintro e w_144 ⟨rfl, hb_144⟩
                have HB144 := Lib.hid hb_144
                clear cR0 cR1 cR2 cR3
                have B144 := Lib.hid (B143.out.trans (hb_144.mono B143.out.size))
                have F144 := Lib.hid (F143.out.next hb_144)
                have KR144 := Lib.hid (KR143.out.next hb_144)
                have IR144 := Lib.hid (IR143.out.next hb_144)
                have U144 := Lib.hid (U143.out.next hb_144)
                have T144 := Lib.hid (T143.out.next hb_144)
                have KS144 := Lib.hid (KS143.out.next hb_144)
                have V144 := Lib.hid (V143.out.next hb_144)
                clear hb_144
                go_wp2_with (fail)
                go_ret
                exact ⟨rfl, B144.out⟩

end Go.Proofs.Ytcbodedpahdobaa
