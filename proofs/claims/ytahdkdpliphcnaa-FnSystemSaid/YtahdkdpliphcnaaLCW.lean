
import Derived.Test.YtahdkdpliphcnaaLCT
import Derived.Test.YtahdkdpliphcnaaNK
import Derived.Test.YtahdkdpliphcnaaLCV
import Derived.Test.YtahdkdpliphcnaaMH
/- The walk of the law FnSystem. -/
namespace Go.Proofs.Ytahdkdpliphcnaa
open Go.RowKit Go.Shelf
set_option maxRecDepth 100000

theorem valid_nat {n o : Int} {X Y : List Int} (h : validB n o X Y = true) : ∃ m e : Nat, n = m ∧ o = e := by
  unfold validB at h
  rw [Bool.and_eq_true] at h
  obtain ⟨m, e, h1, h2, _⟩ := fits_data h.1
  exact ⟨m, e, h1, h2⟩
theorem all_lst {m k : Nat} {F : Nat → Nat} (h : ∀ i, i < k → F i < m) : allB (m : Int) (lstF F k) = true := decide_eq_true fun i hi => by
  rw [lstF_len] at hi
  rw [lstF_get hi]
  have := h i hi
  exact inB_true (by simp; omega)
/-- What the law says of the solutions. -/
theorem sys_law {n o N : Int} {X Y : List Int} {RR : List (List Int)} {VV : List Int} (h : sysB n o X Y N RR VV = true) :
    ((sysL n o X Y N RR VV).length = 0 ∨ (sysL n o X Y N RR VV).length = (sysL n o X Y N RR (zrs RR.length)).length) ∧
    ∀ (i r : Nat) (Z Q : List Int), (sysL n o X Y N RR VV)[i]? = some Z → RR[r]? = some Q → dtV n o X Y Z Q = VV[r]?.getD 0 := by
  obtain ⟨hs, _, _⟩ := sys_data h
  have hv := (spc_data hs).1
  obtain ⟨m, e, rfl, rfl⟩ := valid_nat hv
  obtain ⟨k, rfl⟩ := Int.eq_ofNat_of_zero_le (show 0 ≤ N by have := (spc_data hs).2.1.1; omega)
  obtain ⟨hm, _, hk, _, _, hro⟩ := spc_rows hs
  have R := rtab_of_valid hv
  have hd : sysB (m : Int) e X Y k RR (zrs RR.length) = true := by rw [dual_sys]; exact hs
  rw [sysL_yes h, sysL_yes hd]
  refine ⟨?_, fun i r Z Q hZ hQ => ?_⟩
  · unfold solL
    rw [List.length_map, List.length_map]
    rcases R.sol_count (VV := VV) hro with h1 | h1
    · left; rw [h1]; rfl
    · right; exact h1
  · unfold solL at hZ
    rw [List.getElem?_map, Option.map_eq_some_iff] at hZ
    obtain ⟨x, hx, rfl⟩ := hZ
    have hok : okK m (tabOf X) (tabOf Y) k RR VV x = true := (List.mem_filter.1 (List.mem_of_getElem? hx)).2
    obtain ⟨hl, hQm, hQl⟩ := hro r Q hQ
    have h1 := ok_get hok hQ
    have hvm := fun i (_ : i < k) => vec_lt hm k x i
    rw [dtV_yes (dtB_yes (by rw [lstF_len]; exact hl.symm) hv (all_lst hvm) (by rw [← hQl]; exact all_lst hQm)), ← h1, Int.toNat_natCast, lstF_len,
      dot_congr (l := k) (F := tabOf (lstF (vecF m k x) k)) (F' := vecF m k x) (G := tabOf Q) (G' := tabOf Q) (fun i hi => lstF_tab hi) (fun _ _ => rfl) k (Nat.le_refl _),
      dot_comm (l := k) (fun a b ha hb => R.p.comm ha hb) hvm hQm k (Nat.le_refl _)]
theorem LLr.rws {w : World} {v : Value} {ZZ : List (List Int)} (h : LLr w v ZZ) : Rws w w.heap.size v ZZ := by
  obtain ⟨A, cap, e, h3⟩ := h
  refine ⟨A, cap, e, fun i Z hZ => ?_⟩
  obtain ⟨g, B, c, e0, h2, e1, e2, e3, e4⟩ := h3 i Z hZ
  exact ⟨g, 0, B, c, e0, h2, by rw [Nat.zero_add]; exact e1, e2, by omega, e4⟩
theorem eqL_own_SY {xs : List Int} : eqL xs xs = true := eqL_true rfl fun _ _ => rfl

set_option maxHeartbeats 16000000 in
theorem fnSystem_walk (A : Option Addr) (n c : Nat) (w : World) (hb : Byts w w.heap.size A n) (hc : n ≤ c) (hc2 : c ≤ 9223372036854775807) :
    Calls Try.prog 7 #[.slice A n c] w fun e w' => e = .returned (.bool true) ∧ Below w.heap.size w w' := by
  by_cases hbig : n > 1048576
  · have t0 : decide ((n : Int) > 1048576) = true := by simp; omega
    go_enter Try.func7, Try.ntmps7
    go_wp2_with (fail)
    go_ret
    exact ⟨rfl, Below.refl _ _⟩
  have hn : n ≤ 1048576 := by omega
  have t0 : decide ((n : Int) > 1048576) = false := by simp; omega
  go_enter Try.func7, Try.ntmps7
  go_wp2_with (fail)
  refine (drawSolveSystem_any A n c w hb hn hc hc2).mono ?_
  rintro e w0 ⟨v, NN, u, x, rfl, hA, hD, hV, hb0⟩
  obtain ⟨N, O, A1, A2, q, ca, cb, X, Y, rfl, hOX, hOY, hq1, hq2, hq3, hq4⟩ := hA.data
  obtain ⟨RR, hLL, hRl, _⟩ := hD
  obtain ⟨VV, ⟨Av, lv, cv, rfl, ov, nv, nv2⟩, hVl⟩ := hV
  obtain ⟨Au, cu, rfl⟩ := LLo_formR hLL
  obtain ⟨w1, hW1⟩ : ∃ V, World.alloc w0 (.cells #[.int .i64 N, .int .i64 O, .slice A1 q ca, .slice A2 q cb] 27) = V := ⟨_, rfl⟩
  have hb1 : Below w0.heap.size w0 w1 := by subst hW1; exact (Below.refl _ _).alloc (Nat.le_refl _) _
  have k1 : Blk w1 w0.heap.size 27 #[.int .i64 N, .int .i64 O, .slice A1 q ca, .slice A2 q cb] := by subst hW1; exact Blk.new w0 _ _
  have IX := Lib.hid (hOX.ints.next hb1)
  have IY := Lib.hid (hOY.ints.next hb1)
  have IR := Lib.hid ((hLL.readr.next hb1).rws)
  have IV := Lib.hid (ov.ints.next hb1)
  have B1 := Lib.hid (below_step hb0 hb1)
  have hvl : VV.length = lv := ov.1
  go_upto_region 4 with (fail)
  try rw [hW1]
  obtain ⟨gb, hgb⟩ : ∃ b, w0.heap.size = b := ⟨_, rfl⟩
  rw [hgb] at k1 ⊢
  have K1 := Lib.hid k1
  clear hA hLL hOX hOY ov hb0 hb1 hW1 k1 hgb
  -- the contracts, by names
  have hla : q ≤ 9223372036854775807 := by omega
  have hlr : RR.length ≤ 9223372036854775807 := by omega
  have hlr2 : RR.length ≤ 1048576 := by omega
  have hlv : lv ≤ 9223372036854775807 := by omega
  have SY := Lib.hid (show ∀ y : World, Below w1.heap.size w1 y → Calls Try.prog 22 #[.agg #[.int .i64 N, .int .i64 O, .slice A1 q ca, .slice A2 q cb], .int .i64 NN, .slice Au RR.length cu, .slice Av lv cv] y fun e' w' => ∃ A6 q6, e' = .returned (.tuple #[.slice A6 (sysL N O X Y NN RR VV).length q6, .bool (sysB N O X Y NN RR VV)]) ∧ LLr w' (.slice A6 (sysL N O X Y NN RR VV).length q6) (sysL N O X Y NN RR VV) ∧ Below y.heap.size y w' from fun y hy =>
    (sys_any N O NN A1 A2 Av q ca q cb lv cv X Y RR VV _ y (IX.out.next hy) (IY.out.next hy) (IR.out.next hy) (IV.out.next hy) hla hla hq3 hq4 hlr hlv).mono fun e' w' ⟨v', e1, ⟨A6, q6, Bs, cs, e2, lm, _, _, _⟩, e3⟩ => ⟨A6, q6, by rw [e1, e2], lm.readr q6, e3⟩)
  have SS := Lib.hid (show ∀ y : World, Below w1.heap.size w1 y → Calls Try.prog 20 #[.agg #[.int .i64 N, .int .i64 O, .slice A1 q ca, .slice A2 q cb], .int .i64 NN, .slice Au RR.length cu, .slice Av lv cv] y fun e' w' => ∃ A6 q6, e' = .returned (.tuple #[.slice A6 (sysL N O X Y NN RR VV).length q6, .bool (sysB N O X Y NN RR VV)]) ∧ LLr w' (.slice A6 (sysL N O X Y NN RR VV).length q6) (sysL N O X Y NN RR VV) ∧ Below y.heap.size y w' from fun y hy =>
    (sSys_any N O NN A1 A2 Av q ca q cb lv cv X Y RR VV _ y (IX.out.next hy) (IY.out.next hy) (IR.out.next hy) (IV.out.next hy) hla hla hq3 hq4 hlr hlv).mono fun e' w' ⟨v', e1, h2, e3⟩ => by
      obtain ⟨A6, q6, e4, h5⟩ := h2
      subst e4
      exact ⟨A6, q6, e1, ⟨A6, q6, rfl, h5⟩, e3⟩)
  have DU := Lib.hid (show ∀ y : World, Below w1.heap.size w1 y → Calls Try.prog 29 #[.agg #[.int .i64 N, .int .i64 O, .slice A1 q ca, .slice A2 q cb], .int .i64 NN, .slice Au RR.length cu] y fun e' w' => ∃ A6 q6, e' = .returned (.tuple #[.slice A6 (sysL N O X Y NN RR (zrs RR.length)).length q6, .bool (spcB N O X Y NN RR)]) ∧ Below y.heap.size y w' from fun y hy =>
    (dual_any N O NN A1 A2 q ca q cb X Y RR _ y (IX.out.next hy) (IY.out.next hy) (IR.out.next hy) hla hla hq3 hq4 hlr2).mono fun e' w' ⟨v', e1, ⟨A6, q6, Bs, cs, e2, _⟩, e3⟩ => ⟨A6, q6, by rw [e1, e2], e3⟩)
  have DT := Lib.hid (show ∀ (y : World) (C D : Option Addr) (l1 q1 l2 q2 : Nat) (Z Q : List Int), Below w1.heap.size w1 y → Ints y y.heap.size C l1 Z → Ints y y.heap.size D l2 Q → l1 ≤ 9223372036854775807 → l2 ≤ 9223372036854775807 → Calls Try.prog 18 #[.agg #[.int .i64 N, .int .i64 O, .slice A1 q ca, .slice A2 q cb], .slice C l1 q1, .slice D l2 q2] y fun e' w' => e' = .returned (.int .i64 (dtV N O X Y Z Q)) ∧ Below y.heap.size y w' from fun y C D l1 q1 l2 q2 Z Q hy h1 h2 h3 h4 =>
    dotOf_any N O A1 A2 C D q ca q cb l1 q1 l2 q2 X Y Z Q y (IX.out.next hy) (IY.out.next hy) h1 h2 hla hla h3 h4 hq3 hq4)
  have DS := Lib.hid (show ∀ (y : World) (C D : Option Addr) (l1 q1 l2 q2 : Nat) (Z Q : List Int), Below w1.heap.size w1 y → Ints y y.heap.size C l1 Z → Ints y y.heap.size D l2 Q → l1 ≤ 9223372036854775807 → l2 ≤ 9223372036854775807 → Calls Try.prog 17 #[.agg #[.int .i64 N, .int .i64 O, .slice A1 q ca, .slice A2 q cb], .slice C l1 q1, .slice D l2 q2] y fun e' w' => e' = .returned (.int .i64 (dtV N O X Y Z Q)) ∧ Below y.heap.size y w' from fun y C D l1 q1 l2 q2 Z Q hy h1 h2 h3 h4 =>
    sdotOf_any N O A1 A2 C D q ca q cb l1 q1 l2 q2 X Y Z Q y (IX.out.next hy) (IY.out.next hy) h1 h2 hla hla h3 h4 hq3 hq4)
  have LAW := Lib.hid (fun h => sys_law (n := N) (o := O) (X := X) (Y := Y) (N := NN) (RR := RR) (VV := VV) h)
  have HVL := Lib.hid (fun h => (sys_data (n := N) (o := O) (X := X) (Y := Y) (N := NN) (RR := RR) (VV := VV) h).2.1)
  have SHP := Lib.hid (sys_shape (n := N) (o := O) (X := X) (Y := Y) (N := NN) (RR := RR) (VV := VV))
  have SPB := Lib.hid (fun h => (sys_data (n := N) (o := O) (X := X) (Y := Y) (N := NN) (RR := RR) (VV := VV) h).1)
  obtain ⟨ZZ, hZZ⟩ : ∃ ZZ, sysL N O X Y NN RR VV = ZZ := ⟨_, rfl⟩
  obtain ⟨dl, hdl⟩ : ∃ dl, (sysL N O X Y NN RR (zrs RR.length)).length = dl := ⟨_, rfl⟩
  rw [hZZ] at SY SS LAW SHP
  rw [hdl] at DU LAW
  obtain ⟨zl, hzl⟩ : ∃ zl, ZZ.length = zl := ⟨_, rfl⟩
  rw [hzl] at SY SS LAW SHP
  have HZL := Lib.hid hzl
  obtain ⟨nr, hnr⟩ : ∃ nr, RR.length = nr := ⟨_, rfl⟩
  rw [hnr] at SY SS DU HVL IR hRl hlr hlr2
  have HNR := Lib.hid hnr
  have hz3 : zl ≤ 300 := SHP.out.1
  have tz1 : ((zl : Int) != (zl : Int)) = false := by simp
  have tz2 : ((zl : Int) == (zl : Int)) = true := by simp
  simp only [hnr]
  clear hZZ hdl hzl hnr
  obtain ⟨c0, c1, c2, c3⟩ := blk4 K1.out
  cases hok : sysB N O X Y NN RR VV
  · rw [hok] at SY SS
    go_wp2_with (first
      | (go_at_call 22; (with_reducible refine (SY.out _ (Below.refl _ _)).mono ?_); rintro e w2 ⟨A6, q6, rfl, hl6, hb2⟩; have B2 := Lib.hid hb2; have K2 := Lib.hid (K1.out.next hb2); clear hb2 c0 c1 c2 c3; obtain ⟨c0, c1, c2, c3⟩ := blk4 K2.out)
      | (go_at_call 20; (with_reducible refine (SS.out _ B2.out).mono ?_); rintro e w3 ⟨A7, q7, rfl, hl7, hb3⟩; have B3 := Lib.hid (below_step B2.out hb3); clear hb3)
      | fail)
    go_ret
    exact ⟨rfl, B1.out.trans (B3.out.mono B1.out.size)⟩
  · rw [hok] at SY SS
    have LW := Lib.hid (LAW.out hok)
    have hvn := HVL.out hok
    rw [hvl] at hvn
    subst hvn
    go_wp2_with (first
      | (go_at_call 22; (with_reducible refine (SY.out _ (Below.refl _ _)).mono ?_); rintro e w2 ⟨A6, q6, rfl, hl6, hb2⟩; have L6 := Lib.hid hl6; have B2 := Lib.hid hb2; have K2 := Lib.hid (K1.out.next hb2); clear hb2 hl6 c0 c1 c2 c3; obtain ⟨c0, c1, c2, c3⟩ := blk4 K2.out)
      | (go_at_call 20; (with_reducible refine (SS.out _ B2.out).mono ?_); rintro e w3 ⟨A7, q7, rfl, hl7, hb3⟩; have L7 := Lib.hid hl7; have L6' := Lib.hid (L6.out.next hb3); have B3 := Lib.hid (below_step B2.out hb3); have K3 := Lib.hid (K2.out.next hb3); clear hb3 hl7 c0 c1 c2 c3; obtain ⟨c0, c1, c2, c3⟩ := blk4 K3.out)
      | (go_at_call 29; (with_reducible refine (DU.out _ B3.out).mono ?_); rintro e w4 ⟨A8, q8, rfl, hb4⟩; have L7' := Lib.hid (L7.out.next hb4); have L6'' := Lib.hid (L6'.out.next hb4); have B4 := Lib.hid (below_step B3.out hb4); have K4 := Lib.hid (K3.out.next hb4); clear hb4 c0 c1 c2 c3)
      | fail)
    go_loopg [76] zl (fun g2 vi wr => ∃ y : Nat, y ≤ zl ∧ zl ≤ y + g2 ∧ vi = .int .i64 y ∧ Below w4.heap.size w4 wr)
    case atStart => exact ⟨0, Nat.zero_le _, by omega, rfl, Below.refl _ _⟩
    case round =>
      obtain ⟨y, hy, hg2, rfl, hbw⟩ := hrel
      have BW := Lib.hid hbw
      have B5 := Lib.hid (below_step B4.out hbw)
      have L6w := Lib.hid (L6''.out.next hbw)
      have L7w := Lib.hid (L7'.out.next hbw)
      have K5 := Lib.hid (K4.out.next hbw)
      clear hbw
      by_cases hlt : y < zl
      · obtain ⟨Z, hZ⟩ : ∃ Z, ZZ[y]? = some Z := ⟨_, List.getElem?_eq_getElem (by rw [HZL.out]; exact hlt)⟩
        obtain ⟨A6', q6', e6, h6⟩ := L6w.out
        obtain ⟨A7', q7', e7, h7⟩ := L7w.out
        simp only [Value.slice.injEq] at e6 e7
        obtain ⟨rfl, hh6, rfl⟩ := e6
        obtain ⟨rfl, hh7, rfl⟩ := e7
        clear hh6 hh7
        obtain ⟨ga, Ba, ca', rfl, hga, hca, _, ha4, hIa⟩ := h6 y Z hZ
        obtain ⟨gd, Bd, cd', rfl, hgd, hcd, _, _, hId⟩ := h7 y Z hZ
        have IA := Lib.hid hIa
        have ID := Lib.hid hId
        have LZ := Lib.hid (fun r Q hQ => LW.out.2 y r Z Q hZ hQ)
        obtain ⟨lz, hlz⟩ : ∃ x, Z.length = x := ⟨_, rfl⟩
        rw [hlz] at hca hcd ha4 IA ID
        have hlz9 : lz ≤ 9223372036854775807 := by omega
        clear hIa hId h6 h7 hZ hlz
        go_wp2_with (go_at_call 31; (with_reducible refine (frSame_any Ba Bd lz lz ca' cd' Z Z _ _ _ IA.out ID.out hlz9 hlz9).mono ?_); rintro e w5 ⟨rfl, hb5⟩; rw [eqL_own_SY]; have BW5 := Lib.hid (below_step BW.out hb5); have B6 := Lib.hid (below_step B5.out hb5); have IA5 := Lib.hid (IA.out.next hb5); have K6 := Lib.hid (K5.out.next hb5); clear hb5)
        go_loopg [90] lv (fun g3 vi wr => ∃ j : Nat, j ≤ lv ∧ lv ≤ j + g3 ∧ vi = .int .i64 j ∧ Below w5.heap.size w5 wr)
        case atStart => exact ⟨0, Nat.zero_le _, by omega, rfl, Below.refl _ _⟩
        case round =>
          obtain ⟨j, hj, hg3, rfl, hbx⟩ := hrel
          have BX := Lib.hid (below_step BW5.out hbx)
          have BX5 := Lib.hid hbx
          have B7 := Lib.hid (below_step B6.out hbx)
          have IA7 := Lib.hid (IA5.out.next hbx)
          have K7 := Lib.hid (K6.out.next hbx)
          clear hbx
          by_cases hlj : j < lv
          · obtain ⟨Q, hQ⟩ : ∃ Q, RR[j]? = some Q := ⟨_, List.getElem?_eq_getElem (by rw [HNR.out]; exact hlj)⟩
            obtain ⟨Au', cu', eu, hu⟩ := (IR.out.next B7.out)
            simp only [Value.slice.injEq] at eu
            obtain ⟨rfl, hhu, rfl⟩ := eu
            clear hhu
            obtain ⟨gq, oq, Bq, cq, rfl, hgq, hcq, _, hq9, hIq⟩ := hu j Q hQ
            obtain ⟨bv, ov, rfl, hbv, hcv⟩ := ints_cell (IV.out.next B7.out) hlj
            have hval := LZ.out j Q hQ
            obtain ⟨x, hx⟩ : ∃ x, VV[j]?.getD 0 = x := ⟨_, rfl⟩
            rw [hx] at hcv hval
            have IQ := Lib.hid hIq
            obtain ⟨lq, hlq⟩ : ∃ x, Q.length = x := ⟨_, rfl⟩
            rw [hlq] at hcq hq9 IQ
            have D1 := Lib.hid (show ∀ u : Ext wr, Calls Try.prog 18 #[.agg #[.int .i64 N, .int .i64 O, .slice A1 q ca, .slice A2 q cb], .slice Ba lz ca', .slice Bq lq cq] (ext wr u) fun e' w' => e' = .returned (.int .i64 x) ∧ Below (ext wr u).heap.size (ext wr u) w' from fun u => by
              have := DT.out (ext wr u) Ba Bq lz ca' lq cq Z Q (below_step B7.out (ext_below _ _)) (IA7.out.next (ext_below _ _)) (IQ.out.next (ext_below _ _)) hlz9 hq9
              rwa [hval] at this)
            have D2 := Lib.hid (show ∀ u : Ext wr, Calls Try.prog 17 #[.agg #[.int .i64 N, .int .i64 O, .slice A1 q ca, .slice A2 q cb], .slice Ba lz ca', .slice Bq lq cq] (ext wr u) fun e' w' => e' = .returned (.int .i64 x) ∧ Below (ext wr u).heap.size (ext wr u) w' from fun u => by
              have := DS.out (ext wr u) Ba Bq lz ca' lq cq Z Q (below_step B7.out (ext_below _ _)) (IA7.out.next (ext_below _ _)) (IQ.out.next (ext_below _ _)) hlz9 hq9
              rwa [hval] at this)
            have tx : (x != x) = false := by simp
            obtain ⟨c0, c1, c2, c3⟩ := blk4 K7.out
            clear hval hx hlq hIq hQ hu
            go_wp2_with (fail)
            refine wp_region_ext (by kernel_rfl) (by kernel_rfl) ?_
            repeat (go_big_quiet_step (first
              | (go_at_call 18; with_reducible refine calls_ext (D1.out _))
              | (go_at_call 17; with_reducible refine calls_ext (D2.out _))))
            refine wpQuiet_nil ?_
            intro w8 hb8
            have BE := Lib.hid (below_step BX5.out hb8)
            clear hb8
            go_wp2
            go_roundg (lv - (j + 1))
            case measure => omega
            case rel => exact ⟨j + 1, by omega, by omega, by go_num, BE.out⟩
          · have hjl : j = lv := by omega
            subst hjl
            go_wp2
            go_roundg (zl - (y + 1))
            case measure => omega
            case rel => exact ⟨y + 1, by omega, by omega, by go_num, BX.out⟩
      · have hyz : y = zl := by omega
        subst hyz
        by_cases hz0 : y = 0
        · have t1 : ((y : Int) == 0) = true := by rw [hz0]; rfl
          go_wp2
          go_ret
          exact ⟨rfl, B1.out.trans (B5.out.mono B1.out.size)⟩
        · have t1 : ((y : Int) == 0) = false := by rw [beq_eq_false_iff_ne]; omega
          have hyd : y = dl := by
            rcases LW.out.1 with h | h
            · exact absurd h hz0
            · exact h
          subst hyd
          go_wp2
          go_ret
          exact ⟨rfl, B1.out.trans (B5.out.mono B1.out.size)⟩

end Go.Proofs.Ytahdkdpliphcnaa

