
import Derived.Test.YtfpkijoamgohcaaMI
/- The walk of the law FnAssociates. -/
namespace Go.Proofs.Ytfpkijoamgohcaa
open Go.RowKit
set_option maxRecDepth 100000

theorem own_step {p0 j : Nat} {tb : Bool} (h1 : p0 < j → false = true) (h2 : j = p0 → tb = true) : p0 < j + 1 → tb = true := fun h => by
  rcases Nat.lt_or_ge p0 j with h3 | h3
  · exact absurd (h1 h3) (by decide)
  · exact h2 (by omega)
def fnAssociates_r1_mk (i : Nat) : Bool := i == 2 || i == 4
def fnAssociates_r1_L (i : Nat) : Bool := i == 2
def fnAssociates_r1_Z (U : List Int) (_ : Nat) : List Int := U
def fnAssociates_r1_N (nU : Nat) (_ : Nat) : Nat := nU
def fnAssociates_r1_B (_ : Nat) : Bool := true
def fnAssociates_r2_mk (i : Nat) : Bool := i == 2 || i == 4
def fnAssociates_r2_L (i : Nat) : Bool := i == 2
def fnAssociates_r2_Z (U : List Int) (_ : Nat) : List Int := U
def fnAssociates_r2_N (nU : Nat) (_ : Nat) : Nat := nU
def fnAssociates_r2_B (_ : Nat) : Bool := true
set_option maxHeartbeats 16000000 in
theorem fnAssociates_walk (A : Option Addr) (n c : Nat) (w : World) (hb : Byts w w.heap.size A n) (hc : n ≤ c) (hc2 : c ≤ 9223372036854775807) :
    Calls Try.prog 5 #[.slice A n c] w fun e w' => e = .returned (.bool true) ∧ Below w.heap.size w w' := by
  by_cases hbig : n > 1048576
  · have t0 : decide ((n : Int) > 1048576) = true := by simp; omega
    go_enter Try.func5, Try.ntmps5
    go_wp2_with (fail)
    go_ret
    exact ⟨rfl, Below.refl _ _⟩
  have hn : n ≤ 1048576 := by omega
  have t0 : decide ((n : Int) > 1048576) = false := by simp; omega
  go_enter Try.func5, Try.ntmps5
  go_wp2_with (fail)
  refine (drawAssociatesOf_any A n c w hb hn hc hc2).mono ?_
  rintro e w1 ⟨v, a, rfl, hA, ha, hb1⟩
  have Ha := Lib.hid ha
  clear ha
  obtain ⟨N, O, A1, A2, q, ca, cb, X, Y, rfl, hI, hq, hNmx⟩ := hA.rin
  obtain ⟨V, hV⟩ : ∃ V, w1.alloc (.cells #[.int .i64 N, .int .i64 O, .slice A1 q ca, .slice A2 q cb] 25) = V := ⟨_, rfl⟩
  have bV : Below w1.heap.size w1 V := by subst hV; exact (Below.refl _ _).alloc (Nat.le_refl _) _
  obtain ⟨bx, hbx⟩ : ∃ b, b = w1.heap.size := ⟨_, rfl⟩
  have K0 := Lib.hid (show Blk V bx 25 #[.int .i64 N, .int .i64 O, .slice A1 q ca, .slice A2 q cb] by subst hV hbx; exact Blk.new w1 _ _)
  have I0 := Lib.hid (hI.next bV)
  have B0 := Lib.hid (hb1.trans (bV.mono hb1.size))
  clear hI hb1 hA
  go_upto_region 4 with (fail)
  rw [← hbx]
  clear hV hbx bV
  by_cases hval : validB N O X Y = true ∧ inB N a = true
  · obtain ⟨v1, ia⟩ := hval
    obtain ⟨m, e, b1, o1, b2, o2, rfl, rfl, rfl, rfl, hr, _⟩ := valid_data v1 I0.out.hX I0.out.hY I0.out.hca I0.out.hcb
    have V1 := Lib.hid v1
    have R := Lib.hid (rtab_of_valid v1)
    have hm := hr.hm
    have hm' := hr.hm'
    have he := hr.he
    have HQ := Lib.hid hr.hla
    clear hr v1
    obtain ⟨A3, rfl, hA3⟩ : ∃ k : Nat, a = k ∧ k < m := by
      have := of_decide_eq_true ia
      exact ⟨a.toNat, by omega, by omega⟩
    obtain ⟨d, hd⟩ : ∃ x : Nat, ordN m (tabOf X) A3 = x := ⟨_, rfl⟩
    obtain ⟨pp, hpp⟩ : ∃ p : Nat → Bool, (fun i => decide (i ∈ assocN m (tabOf Y) e A3)) = p := ⟨_, rfl⟩
    have hL : assocL m e X Y A3 = finI (selTo m pp m) := by rw [assocL_yes V1.out (inB_nat hA3), hpp]
    have hps : pp A3 = true := by rw [← hpp]; exact decide_eq_true (R.out.assoc_self hA3)
    obtain ⟨hp0, hg0⟩ := sel_at_yes hA3 hps
    obtain ⟨p0, hp0'⟩ : ∃ k, (selTo m pp A3).length = k := ⟨_, rfl⟩
    rw [hp0'] at hp0 hg0
    have hsb : ∀ b, b < m → pp b = true → assocL m e X Y b = finI (selTo m pp m) := fun b hb h => by
      rw [assocL_yes V1.out (inB_nat hb)]
      congr 1
      refine selTo_congr (fun i _ => ?_) m (Nat.le_refl _)
      rw [← hpp] at h ⊢
      exact decide_eq_decide.2 (R.out.assoc_same hA3 (of_decide_eq_true h) i)
    have hso : ∀ b, b < m → pp b = true → ordN m (tabOf X) b = d := fun b _ h => by
      rw [← hpp] at h
      rw [← hd]
      exact R.out.assoc_ord hA3 (of_decide_eq_true h)
    have hcnt : (selTo m pp m).length ∣ (kindsL m e X Y 0).length := by rw [kindsL_yes V1.out, finI_len, ← hpp]; exact R.out.assoc_count hA3
    have hlen : (selTo m pp m).length ≤ m := selTo_len m
    have hsg : ∀ j, j < (selTo m pp m).length → ∃ b, b < m ∧ pp b = true ∧ (finI (selTo m pp m))[j]?.getD 0 = (b : Int) := fun j h => sel_get h
    have hfl : (finI (selTo m pp m)).length = (selTo m pp m).length := finI_len
    rw [← hL] at hfl hsb hsg hg0
    rw [← hfl] at hp0 hcnt hlen hsg
    obtain ⟨U, eU⟩ : ∃ Z, assocL m e X Y A3 = Z := ⟨_, rfl⟩
    obtain ⟨nU, hnU⟩ : ∃ n, U.length = n := ⟨_, rfl⟩
    have HnU := Lib.hid hnU
    have EU := Lib.hid eU
    clear hnU eU
    obtain ⟨W, eW⟩ : ∃ Z, kindsL m e X Y 0 = Z := ⟨_, rfl⟩
    obtain ⟨nW, hnW⟩ : ∃ n, W.length = n := ⟨_, rfl⟩
    have HnW := Lib.hid hnW
    have EW := Lib.hid eW
    clear hnW eW
    rw [EU.out] at hfl hsb hsg hg0 hp0 hcnt hlen
    rw [EW.out] at hcnt
    rw [HnU.out] at hp0 hcnt hlen hsg
    rw [HnW.out] at hcnt
    have hU1 : 1 ≤ nU := by omega
    have q3 : (nW : Int) % nU = 0 := Int.emod_eq_zero_of_dvd (Int.natCast_dvd_natCast.2 hcnt)
    have q4 : (nW : Int).tmod nU = 0 := by rw [Int.tmod_eq_emod_of_nonneg (by omega)]; exact q3
    have n3 : ¬ nU = 0 := by omega
    have t3 : ((nU : Int) == 0) = false := by rw [beq_eq_false_iff_ne]; omega
    have HSB := Lib.hid hsb
    have HSO := Lib.hid hso
    have HSG := Lib.hid hsg
    have HG0 := Lib.hid hg0
    have HD := Lib.hid hd
    have HP0 := Lib.hid hp0
    clear hsb hso hsg hg0 hd hcnt hfl hL hps hp0' hpp ia hp0
    have c0 := K0.out.cell 0
    have c1 := K0.out.cell 1
    have c2 := K0.out.cell 2
    have c3 := K0.out.cell 3
    simp at c0 c1 c2 c3
    go_wp2_with (fail)
    refine (c_assoc I0.out _ _ EU.out).mono ?_
    rintro e w_1 ⟨v, rfl, ho, hb_1⟩
    obtain ⟨A_U, c_U, rfl, ho'⟩ := ho.as HnU.out
    have U1 := Lib.hid (ho'.down (D' := w.heap.size) B0.out.size)
    clear ho ho'
    have K1 := Lib.hid (K0.out.next hb_1)
    have I1 := Lib.hid (I0.out.next hb_1)
    have B1 := Lib.hid (B0.out.trans (hb_1.mono B0.out.size))
    clear hb_1 c0 c1 c2 c3
    have c0 := K1.out.cell 0
    have c1 := K1.out.cell 1
    have c2 := K1.out.cell 2
    have c3 := K1.out.cell 3
    simp at c0 c1 c2 c3
    go_wp2_with (fail)
    refine (cs_assoc I1.out _ _ EU.out).mono ?_
    rintro e w_2 ⟨v, rfl, ho, hb_2⟩
    obtain ⟨A_T, c_T, rfl, ho'⟩ := ho.as HnU.out
    have T2 := Lib.hid (ho'.down (D' := w.heap.size) B1.out.size)
    clear ho ho'
    have U2 := Lib.hid (U1.out.next hb_2)
    have K2 := Lib.hid (K1.out.next hb_2)
    have I2 := Lib.hid (I1.out.next hb_2)
    have B2 := Lib.hid (B1.out.trans (hb_2.mono B1.out.size))
    clear hb_2 c0 c1 c2 c3
    have c0 := K2.out.cell 0
    have c1 := K2.out.cell 1
    have c2 := K2.out.cell 2
    have c3 := K2.out.cell 3
    simp at c0 c1 c2 c3
    go_wp2_with (fail)
    refine (frSame_is U2.out.at_.1 T2.out.at_.1 U2.out.at_.2.2 T2.out.at_.2.2 true eqL_self).mono ?_
    rintro e w_3 ⟨rfl, hb_3⟩
    have U3 := Lib.hid (U2.out.next hb_3)
    have T3 := Lib.hid (T2.out.next hb_3)
    have K3 := Lib.hid (K2.out.next hb_3)
    have I3 := Lib.hid (I2.out.next hb_3)
    have B3 := Lib.hid (B2.out.trans (hb_3.mono B2.out.size))
    clear hb_3 c0 c1 c2 c3
    have c0 := K3.out.cell 0
    have c1 := K3.out.cell 1
    have c2 := K3.out.cell 2
    have c3 := K3.out.cell 3
    simp at c0 c1 c2 c3
    clear c0 c1 c2 c3
    go_wp2_with (fail)
    go_loopw [6, 44] (fun ov iv wr => ∃ (j : Nat) (ow : Bool), j ≤ nU ∧ iv = .int .i64 j ∧ ov = .bool ow ∧ (p0 < j → ow = true) ∧ Below w_3.heap.size w_3 wr) (fun _ iv _ => nU - (intOf iv).toNat)
    case atStart => exact ⟨0, false, Nat.zero_le _, rfl, rfl, fun h => absurd h (by omega), Below.refl _ _⟩
    case round =>
      obtain ⟨j, ow, hj, rfl, rfl, how, hbr⟩ := hrel
      have K90 := Lib.hid (K3.out.next hbr)
      have I90 := Lib.hid (I3.out.next hbr)
      have B90 := Lib.hid (B3.out.trans (hbr.mono B3.out.size))
      have BQ90 := Lib.hid hbr
      have U90 := Lib.hid (U3.out.next hbr)
      clear hbr
      have HOW := Lib.hid how
      clear how
      by_cases hlt : j < nU
      · obtain ⟨bv, hbv, hpb, hget⟩ := HSG.out j hlt
        obtain ⟨bb, oo, eA, _, hcell⟩ := U90.out.at_.1.at_ hlt
        rw [hget] at hcell
        subst eA
        have tow : ow = false → j = p0 → ((A3 : Int) == (bv : Int)) = true := fun _ h => by subst h; rw [HG0.out] at hget; rw [beq_iff_eq]; exact hget
        have EB := Lib.hid (HSB.out bv hbv hpb)
        have H1 := Lib.hid (show ∀ u, RIn u (some ⟨b1, o1, none⟩) q ca (some ⟨b2, o2, none⟩) q cb X Y → Calls Try.prog 29 #[.agg #[.int .i64 m, .int .i64 e, .slice (some ⟨b1, o1, none⟩) q ca, .slice (some ⟨b2, o2, none⟩) q cb], .int .i64 A3] u fun e' w' => e' = .returned (.int .i64 d) ∧ Below u.heap.size u w' from fun u h => c_sord h _ _ (v_sord V1.out hA3 HD.out rfl rfl))
        have H2 := Lib.hid (show ∀ u, RIn u (some ⟨b1, o1, none⟩) q ca (some ⟨b2, o2, none⟩) q cb X Y → Calls Try.prog 29 #[.agg #[.int .i64 m, .int .i64 e, .slice (some ⟨b1, o1, none⟩) q ca, .slice (some ⟨b2, o2, none⟩) q cb], .int .i64 bv] u fun e' w' => e' = .returned (.int .i64 d) ∧ Below u.heap.size u w' from fun u h => c_sord h _ _ (v_sord V1.out hbv (HSO.out bv hbv hpb) rfl rfl))
        have HTO := Lib.hid tow
        clear tow hget hpb
        obtain ⟨tb, htb⟩ : ∃ t, ((A3 : Int) == (bv : Int)) = t := ⟨_, rfl⟩
        have HTB := Lib.hid htb
        cases ow
        · skip
          have c0 := K90.out.cell 0
          have c1 := K90.out.cell 1
          have c2 := K90.out.cell 2
          have c3 := K90.out.cell 3
          simp at c0 c1 c2 c3
          go_wp2_with (fail)
          refine wp_region_makersE 14 fnAssociates_r1_mk (LmPhi w.heap.size fnAssociates_r1_L (fnAssociates_r1_Z U) (fnAssociates_r1_N nU) fnAssociates_r1_B) (LmSh fnAssociates_r1_L (fnAssociates_r1_N nU) fnAssociates_r1_B) (lmV0 fnAssociates_r1_L (fnAssociates_r1_N nU) fnAssociates_r1_B) probe (by kernel_rfl) (by kernel_rfl) (fun i v w w' h hb => h.next hb) (fun i v x _ h => h.sh) (fun i _ => lmSh0) ?_
          intro V hV vs hvs
          obtain ⟨A_2, c_2, e_2⟩ : ∃ A c, vs 2 = .slice A nU c := (hvs 2 rfl).l rfl
          have e_4 : vs 4 = .bool true := (hvs 4 rfl).b rfl
          have cW : ∃ x, extC V x := ⟨V, extC_of (Below.refl _ _)⟩
          have IV := Lib.hid (I90.out.next hV)
          have BV := Lib.hid (B90.out.trans (hV.mono B90.out.size))
          have KV := Lib.hid (K90.out.next hV)
          have UV := Lib.hid (U90.out.next hV)
          clear c0 c1 c2 c3
          have c0 := KV.out.cell 0
          have c1 := KV.out.cell 1
          have c2 := KV.out.cell 2
          have c3 := KV.out.cell 3
          simp at c0 c1 c2 c3
          clear hV hvs
          simp only [List.take_succ_cons, List.take_zero, List.drop_succ_cons, List.drop_zero]
          refine wpV_quietE cW 2 0 _ _ (by decide) (by decide) ?_
          simp only [List.take_succ_cons, List.take_zero, List.drop_succ_cons, List.drop_zero]
          repeat (go_big_quiet_step (first
            | (go_at_call 29; with_reducible refine calls_ext (H1.out _ (IV.out.ext _)))
            | (go_at_call 29; with_reducible refine calls_ext (H2.out _ (IV.out.ext _)))
            | fail))
          refine wpQuiet_nil ?_
          refine wpV_makeE rfl (by first | rfl | simp [Region.wanted, yielded]) (fun x hx hd => ?_) ?_
          · obtain ⟨u, rfl⟩ := hx
            unfold makesAtE
            go_simp
            refine ⟨rfl, (c_assoc (IV.out.ext u) _ _ EB.out).mono ?_⟩
            rintro _ x' ⟨v, rfl, ho, hb⟩
            exact ⟨_, rfl, hb, ⟨fun _ => ⟨ho.down (Nat.le_trans BV.out.size (ext_below V u).size), HnU.out⟩, fun h => by cases h⟩, fun b hbb => by cases hbb⟩
          rw [e_2]
          go_simp
          refine wpV_quietE cW 1 _ _ _ (by decide) (by decide) ?_
          simp only [List.take_succ_cons, List.take_zero, List.drop_succ_cons, List.drop_zero]
          repeat (go_big_quiet_step (first
            | (go_at_call 29; with_reducible refine calls_ext (H1.out _ (IV.out.ext _)))
            | (go_at_call 29; with_reducible refine calls_ext (H2.out _ (IV.out.ext _)))
            | fail))
          refine wpQuiet_nil ?_
          refine wpV_makeE rfl (by first | rfl | simp [Region.wanted, yielded]) (fun x hx hd => ?_) ?_
          · obtain ⟨u, rfl⟩ := hx
            have h_2 : SliceOut w.heap.size (ext V u) (vs 2) U := ((hd ⟨2, .data⟩ (by simp) rfl rfl).l rfl).1
            rw [e_2] at h_2
            unfold makesAtE
            go_simp
            refine ⟨rfl, (frSame_is h_2.at_.1 (UV.out.next (ext_below V u)).at_.1 h_2.at_.2.2 UV.out.at_.2.2 true eqL_self).mono ?_⟩
            rintro _ x' ⟨rfl, hb⟩
            exact ⟨_, rfl, hb, ⟨fun h => (by cases h), fun _ => rfl⟩, fun b hbb => by cases hbb⟩
          rw [e_4]
          go_simp
          refine wpV_quietE cW 9 _ _ _ (by decide) (by decide) ?_
          simp only [List.take_succ_cons, List.take_zero, List.drop_succ_cons, List.drop_zero]
          repeat (go_big_quiet_step (first
            | (go_at_call 29; with_reducible refine calls_ext (H1.out _ (IV.out.ext _)))
            | (go_at_call 29; with_reducible refine calls_ext (H2.out _ (IV.out.ext _)))
            | fail))
          refine wpQuiet_nil ?_
          refine wpV_nilE ?_
          intro w_91 hb_91 hF_91 _
          clear IV BV KV cW hF_91 e_2 e_4 UV
          have BQ91 := Lib.hid (BQ90.out.trans (hb_91.mono BQ90.out.size))
          have U91 := Lib.hid (U90.out.next hb_91)
          have K91 := Lib.hid (K90.out.next hb_91)
          have I91 := Lib.hid (I90.out.next hb_91)
          have B91 := Lib.hid (B90.out.trans (hb_91.mono B90.out.size))
          clear hb_91 c0 c1 c2 c3
          have c0 := K91.out.cell 0
          have c1 := K91.out.cell 1
          have c2 := K91.out.cell 2
          have c3 := K91.out.cell 3
          simp at c0 c1 c2 c3
          go_wp2
          go_roundw
          case rel => exact ⟨j + 1, tb, by omega, by go_num, rfl, own_step HOW.out (fun h => HTB.out.symm.trans (HTO.out (by first | rfl | trivial) h)), BQ91.out⟩
          case measure => simp [intOf]; omega
        · skip
          have c0 := K90.out.cell 0
          have c1 := K90.out.cell 1
          have c2 := K90.out.cell 2
          have c3 := K90.out.cell 3
          simp at c0 c1 c2 c3
          go_wp2_with (fail)
          refine wp_region_makersE 14 fnAssociates_r2_mk (LmPhi w.heap.size fnAssociates_r2_L (fnAssociates_r2_Z U) (fnAssociates_r2_N nU) fnAssociates_r2_B) (LmSh fnAssociates_r2_L (fnAssociates_r2_N nU) fnAssociates_r2_B) (lmV0 fnAssociates_r2_L (fnAssociates_r2_N nU) fnAssociates_r2_B) probe (by kernel_rfl) (by kernel_rfl) (fun i v w w' h hb => h.next hb) (fun i v x _ h => h.sh) (fun i _ => lmSh0) ?_
          intro V hV vs hvs
          obtain ⟨A_2, c_2, e_2⟩ : ∃ A c, vs 2 = .slice A nU c := (hvs 2 rfl).l rfl
          have e_4 : vs 4 = .bool true := (hvs 4 rfl).b rfl
          have cW : ∃ x, extC V x := ⟨V, extC_of (Below.refl _ _)⟩
          have IV := Lib.hid (I90.out.next hV)
          have BV := Lib.hid (B90.out.trans (hV.mono B90.out.size))
          have KV := Lib.hid (K90.out.next hV)
          have UV := Lib.hid (U90.out.next hV)
          clear c0 c1 c2 c3
          have c0 := KV.out.cell 0
          have c1 := KV.out.cell 1
          have c2 := KV.out.cell 2
          have c3 := KV.out.cell 3
          simp at c0 c1 c2 c3
          clear hV hvs
          simp only [List.take_succ_cons, List.take_zero, List.drop_succ_cons, List.drop_zero]
          refine wpV_quietE cW 2 0 _ _ (by decide) (by decide) ?_
          simp only [List.take_succ_cons, List.take_zero, List.drop_succ_cons, List.drop_zero]
          repeat (go_big_quiet_step (first
            | (go_at_call 29; with_reducible refine calls_ext (H1.out _ (IV.out.ext _)))
            | (go_at_call 29; with_reducible refine calls_ext (H2.out _ (IV.out.ext _)))
            | fail))
          refine wpQuiet_nil ?_
          refine wpV_makeE rfl (by first | rfl | simp [Region.wanted, yielded]) (fun x hx hd => ?_) ?_
          · obtain ⟨u, rfl⟩ := hx
            unfold makesAtE
            go_simp
            refine ⟨rfl, (c_assoc (IV.out.ext u) _ _ EB.out).mono ?_⟩
            rintro _ x' ⟨v, rfl, ho, hb⟩
            exact ⟨_, rfl, hb, ⟨fun _ => ⟨ho.down (Nat.le_trans BV.out.size (ext_below V u).size), HnU.out⟩, fun h => by cases h⟩, fun b hbb => by cases hbb⟩
          rw [e_2]
          go_simp
          refine wpV_quietE cW 1 _ _ _ (by decide) (by decide) ?_
          simp only [List.take_succ_cons, List.take_zero, List.drop_succ_cons, List.drop_zero]
          repeat (go_big_quiet_step (first
            | (go_at_call 29; with_reducible refine calls_ext (H1.out _ (IV.out.ext _)))
            | (go_at_call 29; with_reducible refine calls_ext (H2.out _ (IV.out.ext _)))
            | fail))
          refine wpQuiet_nil ?_
          refine wpV_makeE rfl (by first | rfl | simp [Region.wanted, yielded]) (fun x hx hd => ?_) ?_
          · obtain ⟨u, rfl⟩ := hx
            have h_2 : SliceOut w.heap.size (ext V u) (vs 2) U := ((hd ⟨2, .data⟩ (by simp) rfl rfl).l rfl).1
            rw [e_2] at h_2
            unfold makesAtE
            go_simp
            refine ⟨rfl, (frSame_is h_2.at_.1 (UV.out.next (ext_below V u)).at_.1 h_2.at_.2.2 UV.out.at_.2.2 true eqL_self).mono ?_⟩
            rintro _ x' ⟨rfl, hb⟩
            exact ⟨_, rfl, hb, ⟨fun h => (by cases h), fun _ => rfl⟩, fun b hbb => by cases hbb⟩
          rw [e_4]
          go_simp
          refine wpV_quietE cW 9 _ _ _ (by decide) (by decide) ?_
          simp only [List.take_succ_cons, List.take_zero, List.drop_succ_cons, List.drop_zero]
          repeat (go_big_quiet_step (first
            | (go_at_call 29; with_reducible refine calls_ext (H1.out _ (IV.out.ext _)))
            | (go_at_call 29; with_reducible refine calls_ext (H2.out _ (IV.out.ext _)))
            | fail))
          refine wpQuiet_nil ?_
          refine wpV_nilE ?_
          intro w_91 hb_91 hF_91 _
          clear IV BV KV cW hF_91 e_2 e_4 UV
          have BQ91 := Lib.hid (BQ90.out.trans (hb_91.mono BQ90.out.size))
          have U91 := Lib.hid (U90.out.next hb_91)
          have K91 := Lib.hid (K90.out.next hb_91)
          have I91 := Lib.hid (I90.out.next hb_91)
          have B91 := Lib.hid (B90.out.trans (hb_91.mono B90.out.size))
          clear hb_91 c0 c1 c2 c3
          have c0 := K91.out.cell 0
          have c1 := K91.out.cell 1
          have c2 := K91.out.cell 2
          have c3 := K91.out.cell 3
          simp at c0 c1 c2 c3
          go_wp2
          go_roundw
          case rel => exact ⟨j + 1, true, by omega, by go_num, rfl, fun _ => rfl, BQ91.out⟩
          case measure => simp [intOf]; omega
      · have hjn : j = nU := by omega
        have how := HOW.out (by have := HP0.out; omega)
        subst how
        have c0 := K90.out.cell 0
        have c1 := K90.out.cell 1
        have c2 := K90.out.cell 2
        have c3 := K90.out.cell 3
        simp at c0 c1 c2 c3
        go_wp2_with (fail)
        refine (c_kind0 I90.out _ EW.out).mono ?_
        rintro e w_91 ⟨v, rfl, ho, hb_91⟩
        obtain ⟨A_W, c_W, rfl, ho'⟩ := ho.as HnW.out
        have W91 := Lib.hid (ho'.down (D' := w.heap.size) B90.out.size)
        clear ho ho'
        have BQ91 := Lib.hid (BQ90.out.trans (hb_91.mono BQ90.out.size))
        have U91 := Lib.hid (U90.out.next hb_91)
        have K91 := Lib.hid (K90.out.next hb_91)
        have I91 := Lib.hid (I90.out.next hb_91)
        have B91 := Lib.hid (B90.out.trans (hb_91.mono B90.out.size))
        clear hb_91 c0 c1 c2 c3
        have c0 := K91.out.cell 0
        have c1 := K91.out.cell 1
        have c2 := K91.out.cell 2
        have c3 := K91.out.cell 3
        simp at c0 c1 c2 c3
        go_wp2_with (fail)
        go_ret
        exact ⟨rfl, B91.out⟩
  · have ez : assocL N O X Y a = [] := assocL_no hval
    have es : ordV N O X Y a = -1 := ordV_no hval
    obtain ⟨U, eU⟩ : ∃ Z, assocL N O X Y a = Z := ⟨_, rfl⟩
    obtain ⟨nU, hnU⟩ : ∃ n, U.length = n := ⟨_, rfl⟩
    have HnU := Lib.hid hnU
    have EU := Lib.hid eU
    clear hnU eU
    have t3 : ((nU : Int) == 0) = true := by rw [← HnU.out, ← EU.out, ez]; rfl
    have H1 := Lib.hid (show ∀ u, RIn u A1 q ca A2 q cb X Y → Calls Try.prog 29 #[.agg #[.int .i64 N, .int .i64 O, .slice A1 q ca, .slice A2 q cb], .int .i64 a] u fun e' w' => e' = .returned (.int .i64 (-1)) ∧ Below u.heap.size u w' from fun u h => c_sord h _ _ es)
    clear ez es hval
    have c0 := K0.out.cell 0
    have c1 := K0.out.cell 1
    have c2 := K0.out.cell 2
    have c3 := K0.out.cell 3
    simp at c0 c1 c2 c3
    go_wp2_with (fail)
    refine (c_assoc I0.out _ _ EU.out).mono ?_
    rintro e w_1 ⟨v, rfl, ho, hb_1⟩
    obtain ⟨A_U, c_U, rfl, ho'⟩ := ho.as HnU.out
    have U1 := Lib.hid (ho'.down (D' := w.heap.size) B0.out.size)
    clear ho ho'
    have K1 := Lib.hid (K0.out.next hb_1)
    have I1 := Lib.hid (I0.out.next hb_1)
    have B1 := Lib.hid (B0.out.trans (hb_1.mono B0.out.size))
    clear hb_1 c0 c1 c2 c3
    have c0 := K1.out.cell 0
    have c1 := K1.out.cell 1
    have c2 := K1.out.cell 2
    have c3 := K1.out.cell 3
    simp at c0 c1 c2 c3
    go_wp2_with (fail)
    refine (cs_assoc I1.out _ _ EU.out).mono ?_
    rintro e w_2 ⟨v, rfl, ho, hb_2⟩
    obtain ⟨A_T, c_T, rfl, ho'⟩ := ho.as HnU.out
    have T2 := Lib.hid (ho'.down (D' := w.heap.size) B1.out.size)
    clear ho ho'
    have U2 := Lib.hid (U1.out.next hb_2)
    have K2 := Lib.hid (K1.out.next hb_2)
    have I2 := Lib.hid (I1.out.next hb_2)
    have B2 := Lib.hid (B1.out.trans (hb_2.mono B1.out.size))
    clear hb_2 c0 c1 c2 c3
    have c0 := K2.out.cell 0
    have c1 := K2.out.cell 1
    have c2 := K2.out.cell 2
    have c3 := K2.out.cell 3
    simp at c0 c1 c2 c3
    go_wp2_with (fail)
    refine (frSame_is U2.out.at_.1 T2.out.at_.1 U2.out.at_.2.2 T2.out.at_.2.2 true eqL_self).mono ?_
    rintro e w_3 ⟨rfl, hb_3⟩
    have U3 := Lib.hid (U2.out.next hb_3)
    have T3 := Lib.hid (T2.out.next hb_3)
    have K3 := Lib.hid (K2.out.next hb_3)
    have I3 := Lib.hid (I2.out.next hb_3)
    have B3 := Lib.hid (B2.out.trans (hb_3.mono B2.out.size))
    clear hb_3 c0 c1 c2 c3
    have c0 := K3.out.cell 0
    have c1 := K3.out.cell 1
    have c2 := K3.out.cell 2
    have c3 := K3.out.cell 3
    simp at c0 c1 c2 c3
    go_wp2_with (fail)
    refine (cs_assoc I3.out _ _ EU.out).mono ?_
    rintro e w_4 ⟨v, rfl, ho, hb_4⟩
    obtain ⟨A_T, c_T, rfl, ho'⟩ := ho.as HnU.out
    have T4 := Lib.hid (ho'.down (D' := w.heap.size) B3.out.size)
    clear ho ho'
    have U4 := Lib.hid (U3.out.next hb_4)
    have K4 := Lib.hid (K3.out.next hb_4)
    have I4 := Lib.hid (I3.out.next hb_4)
    have B4 := Lib.hid (B3.out.trans (hb_4.mono B3.out.size))
    clear hb_4 c0 c1 c2 c3
    have c0 := K4.out.cell 0
    have c1 := K4.out.cell 1
    have c2 := K4.out.cell 2
    have c3 := K4.out.cell 3
    simp at c0 c1 c2 c3
    go_wp2_with (fail)
    refine (frSame_is U4.out.at_.1 T4.out.at_.1 U4.out.at_.2.2 T4.out.at_.2.2 true eqL_self).mono ?_
    rintro e w_5 ⟨rfl, hb_5⟩
    have U5 := Lib.hid (U4.out.next hb_5)
    have T5 := Lib.hid (T4.out.next hb_5)
    have K5 := Lib.hid (K4.out.next hb_5)
    have I5 := Lib.hid (I4.out.next hb_5)
    have B5 := Lib.hid (B4.out.trans (hb_5.mono B4.out.size))
    clear hb_5 c0 c1 c2 c3
    have c0 := K5.out.cell 0
    have c1 := K5.out.cell 1
    have c2 := K5.out.cell 2
    have c3 := K5.out.cell 3
    simp at c0 c1 c2 c3
    go_wp2_with (fail)
    refine (H1.out _ I5.out).mono ?_
    rintro e w_6 ⟨rfl, hb_6⟩
    have U6 := Lib.hid (U5.out.next hb_6)
    have T6 := Lib.hid (T5.out.next hb_6)
    have K6 := Lib.hid (K5.out.next hb_6)
    have I6 := Lib.hid (I5.out.next hb_6)
    have B6 := Lib.hid (B5.out.trans (hb_6.mono B5.out.size))
    clear hb_6 c0 c1 c2 c3
    have c0 := K6.out.cell 0
    have c1 := K6.out.cell 1
    have c2 := K6.out.cell 2
    have c3 := K6.out.cell 3
    simp at c0 c1 c2 c3
    go_wp2_with (fail)
    go_ret
    exact ⟨rfl, B6.out⟩

end Go.Proofs.Ytfpkijoamgohcaa
