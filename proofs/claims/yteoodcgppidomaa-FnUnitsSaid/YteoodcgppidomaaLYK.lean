
import Derived.Test.YteoodcgppidomaaMI
/- The walk of the law FnUnits. -/
namespace Go.Proofs.Yteoodcgppidomaa
open Go.RowKit
set_option maxRecDepth 100000

def fnUnits_r1_mk (i : Nat) : Bool := i == 1 || i == 3
def fnUnits_r1_L (i : Nat) : Bool := i == 1 || i == 3
def fnUnits_r1_Z (U : List Int) (Z : List Int) (i : Nat) : List Int := bif i == 1 then U else Z
def fnUnits_r1_N (nU : Nat) (nZ : Nat) (i : Nat) : Nat := bif i == 1 then nU else nZ
def fnUnits_r1_B (_ : Nat) : Bool := false
def fnUnits_r2_mk (i : Nat) : Bool := i == 2 || i == 3 || i == 8 || i == 9
def fnUnits_r2_L (i : Nat) : Bool := i == 2 || i == 8
def fnUnits_r2_Z (U : List Int) (Z : List Int) (i : Nat) : List Int := bif i == 2 then U else Z
def fnUnits_r2_N (nU : Nat) (nZ : Nat) (i : Nat) : Nat := bif i == 2 then nU else nZ
def fnUnits_r2_B (i : Nat) : Bool := bif i == 3 then true else true
def fnUnits_r3_mk (i : Nat) : Bool := i == 2 || i == 3 || i == 7 || i == 8
def fnUnits_r3_L (i : Nat) : Bool := i == 2 || i == 7
def fnUnits_r3_Z (U : List Int) (Z : List Int) (i : Nat) : List Int := bif i == 2 then U else Z
def fnUnits_r3_N (nU : Nat) (nZ : Nat) (i : Nat) : Nat := bif i == 2 then nU else nZ
def fnUnits_r3_B (i : Nat) : Bool := bif i == 3 then true else true
def fnUnits_r4_mk (i : Nat) : Bool := i == 1 || i == 3
def fnUnits_r4_L (i : Nat) : Bool := i == 1 || i == 3
def fnUnits_r4_Z (U : List Int) (Z : List Int) (i : Nat) : List Int := bif i == 1 then U else Z
def fnUnits_r4_N (nU : Nat) (nZ : Nat) (i : Nat) : Nat := bif i == 1 then nU else nZ
def fnUnits_r4_B (_ : Nat) : Bool := false
def fnUnits_r5_mk (i : Nat) : Bool := i == 2 || i == 3 || i == 8 || i == 9
def fnUnits_r5_L (i : Nat) : Bool := i == 2 || i == 8
def fnUnits_r5_Z (U : List Int) (Z : List Int) (i : Nat) : List Int := bif i == 2 then U else Z
def fnUnits_r5_N (nU : Nat) (nZ : Nat) (i : Nat) : Nat := bif i == 2 then nU else nZ
def fnUnits_r5_B (i : Nat) : Bool := bif i == 3 then true else true
set_option maxHeartbeats 16000000 in
theorem fnUnits_walk (A : Option Addr) (n c : Nat) (w : World) (hb : Byts w w.heap.size A n) (hc : n ≤ c) (hc2 : c ≤ 9223372036854775807) :
    Calls Try.prog 14 #[.slice A n c] w fun e w' => e = .returned (.bool true) ∧ Below w.heap.size w w' := by
  by_cases hbig : n > 1048576
  · have t0 : decide ((n : Int) > 1048576) = true := by simp; omega
    go_enter Try.func14, Try.ntmps14
    go_wp2_with (fail)
    go_ret
    exact ⟨rfl, Below.refl _ _⟩
  have hn : n ≤ 1048576 := by omega
  have t0 : decide ((n : Int) > 1048576) = false := by simp; omega
  go_enter Try.func14, Try.ntmps14
  go_wp2_with (fail)
  refine (drawUnitsOf_any A n c w hb hn hc hc2).mono ?_
  rintro e w1 ⟨v, rfl, hA, hb1⟩
  obtain ⟨N, O, A1, A2, q, ca, cb, X, Y, rfl, hI, hq, hNmx⟩ := hA.rin
  obtain ⟨V, hV⟩ : ∃ V, w1.alloc (.cells #[.int .i64 N, .int .i64 O, .slice A1 q ca, .slice A2 q cb] 26) = V := ⟨_, rfl⟩
  have bV : Below w1.heap.size w1 V := by subst hV; exact (Below.refl _ _).alloc (Nat.le_refl _) _
  obtain ⟨bx, hbx⟩ : ∃ b, b = w1.heap.size := ⟨_, rfl⟩
  have K0 := Lib.hid (show Blk V bx 26 #[.int .i64 N, .int .i64 O, .slice A1 q ca, .slice A2 q cb] by subst hV hbx; exact Blk.new w1 _ _)
  have I0 := Lib.hid (hI.next bV)
  have B0 := Lib.hid (hb1.trans (bV.mono hb1.size))
  clear hI hb1 hA
  go_upto_region 4 with (fail)
  rw [← hbx]
  clear hV hbx bV
  cases v1 : validB N O X Y
  · skip
    have V1 := Lib.hid v1
    have eU0 : kindsL N O X Y 0 = [] := kindsL_no (by rw [v1]; simp)
    have eZ0 : kindsL N O X Y 1 = [] := kindsL_no (by rw [v1]; simp)
    clear v1
    obtain ⟨fv, hfv⟩ : ∃ b, fieldV N O X Y = b := ⟨_, rfl⟩
    obtain ⟨U, eU⟩ : ∃ Z, kindsL N O X Y 0 = Z := ⟨_, rfl⟩
    obtain ⟨nU, hnU⟩ : ∃ n, U.length = n := ⟨_, rfl⟩
    have HnU := Lib.hid hnU
    have EU := Lib.hid eU
    clear hnU eU
    obtain ⟨Z, eZ⟩ : ∃ Z, kindsL N O X Y 1 = Z := ⟨_, rfl⟩
    obtain ⟨nZ, hnZ⟩ : ∃ n, Z.length = n := ⟨_, rfl⟩
    have HnZ := Lib.hid hnZ
    have EZ := Lib.hid eZ
    clear hnZ eZ
    have zU : nU = 0 := by rw [← HnU.out, ← EU.out, eU0]; rfl
    have zZ : nZ = 0 := by rw [← HnZ.out, ← EZ.out, eZ0]; rfl
    have tz : ((nU : Int) + (nZ : Int) == 0) = true := by rw [beq_iff_eq]; omega
    have bU : nU ≤ 0 := by omega
    have bZ : nZ ≤ 0 := by omega
    clear zU zZ eU0 eZ0
    have F1 := Lib.hid (show ∀ u, RIn u A1 q ca A2 q cb X Y → Calls Try.prog 55 #[.agg #[.int .i64 N, .int .i64 O, .slice A1 q ca, .slice A2 q cb]] u fun e' w' => e' = .returned (.bool fv) ∧ Below u.heap.size u w' from fun u h => c_field h _ hfv)
    have F2 := Lib.hid (show ∀ u, RIn u A1 q ca A2 q cb X Y → Calls Try.prog 56 #[.agg #[.int .i64 N, .int .i64 O, .slice A1 q ca, .slice A2 q cb]] u fun e' w' => e' = .returned (.bool fv) ∧ Below u.heap.size u w' from fun u h => cs_field h hNmx _ hfv)
    have F3 := Lib.hid (show ∀ u, RIn u A1 q ca A2 q cb X Y → Calls Try.prog 57 #[.agg #[.int .i64 N, .int .i64 O, .slice A1 q ca, .slice A2 q cb]] u fun e' w' => e' = .returned (.bool false) ∧ Below u.heap.size u w' from fun u h => c_valid h _ V1.out)
    clear hfv
    have c0 := K0.out.cell 0
    have c1 := K0.out.cell 1
    have c2 := K0.out.cell 2
    have c3 := K0.out.cell 3
    simp at c0 c1 c2 c3
    go_wp2_with (fail)
    refine wp_region_makersE 4 fnUnits_r1_mk (LmPhi w.heap.size fnUnits_r1_L (fnUnits_r1_Z U Z) (fnUnits_r1_N nU nZ) fnUnits_r1_B) (LmSh fnUnits_r1_L (fnUnits_r1_N nU nZ) fnUnits_r1_B) (lmV0 fnUnits_r1_L (fnUnits_r1_N nU nZ) fnUnits_r1_B) probe (by kernel_rfl) (by kernel_rfl) (fun i v w w' h hb => h.next hb) (fun i v x _ h => h.sh) (fun i _ => lmSh0) ?_
    intro V hV vs hvs
    obtain ⟨A_1, c_1, e_1⟩ : ∃ A c, vs 1 = .slice A nU c := (hvs 1 rfl).l rfl
    obtain ⟨A_3, c_3, e_3⟩ : ∃ A c, vs 3 = .slice A nZ c := (hvs 3 rfl).l rfl
    have cW : ∃ x, extC V x := ⟨V, extC_of (Below.refl _ _)⟩
    have IV := Lib.hid (I0.out.next hV)
    have BV := Lib.hid (B0.out.trans (hV.mono B0.out.size))
    have KV := Lib.hid (K0.out.next hV)
    clear c0 c1 c2 c3
    have c0 := KV.out.cell 0
    have c1 := KV.out.cell 1
    have c2 := KV.out.cell 2
    have c3 := KV.out.cell 3
    simp at c0 c1 c2 c3
    clear hV hvs
    simp only [List.take_succ_cons, List.take_zero, List.drop_succ_cons, List.drop_zero]
    refine wpV_quietE cW 1 0 _ _ (by decide) (by decide) ?_
    simp only [List.take_succ_cons, List.take_zero, List.drop_succ_cons, List.drop_zero]
    repeat (go_big_quiet_step (first
      | fail))
    refine wpQuiet_nil ?_
    refine wpV_makeE rfl (by first | rfl | simp [Region.wanted, yielded]) (fun x hx hd => ?_) ?_
    · obtain ⟨u, rfl⟩ := hx
      unfold makesAtE
      go_simp
      refine ⟨rfl, (c_kind0 (IV.out.ext u) _ EU.out).mono ?_⟩
      rintro _ x' ⟨v, rfl, ho, hb⟩
      exact ⟨_, rfl, hb, ⟨fun _ => ⟨ho.down (Nat.le_trans BV.out.size (ext_below V u).size), HnU.out⟩, fun h => by cases h⟩, fun b hbb => by cases hbb⟩
    rw [e_1]
    go_simp
    refine wpV_quietE cW 1 _ _ _ (by decide) (by decide) ?_
    simp only [List.take_succ_cons, List.take_zero, List.drop_succ_cons, List.drop_zero]
    repeat (go_big_quiet_step (first
      | fail))
    refine wpQuiet_nil ?_
    refine wpV_makeE rfl (by first | rfl | simp [Region.wanted, yielded]) (fun x hx hd => ?_) ?_
    · obtain ⟨u, rfl⟩ := hx
      unfold makesAtE
      go_simp
      refine ⟨rfl, (c_kind1 (IV.out.ext u) _ EZ.out).mono ?_⟩
      rintro _ x' ⟨v, rfl, ho, hb⟩
      exact ⟨_, rfl, hb, ⟨fun _ => ⟨ho.down (Nat.le_trans BV.out.size (ext_below V u).size), HnZ.out⟩, fun h => by cases h⟩, fun b hbb => by cases hbb⟩
    rw [e_3]
    go_simp
    refine wpV_nilE ?_
    intro w_1 hb_1 hF_1 _
    have U1 : SliceOut w.heap.size w_1 (vs 1) U := ((hF_1 1 (by omega) rfl).l rfl).1
    rw [e_1] at U1
    have U1 := Lib.hid U1
    have Z1 : SliceOut w.heap.size w_1 (vs 3) Z := ((hF_1 3 (by omega) rfl).l rfl).1
    rw [e_3] at Z1
    have Z1 := Lib.hid Z1
    clear IV BV KV cW hF_1 e_1 e_3
    have K1 := Lib.hid (K0.out.next hb_1)
    have I1 := Lib.hid (I0.out.next hb_1)
    have B1 := Lib.hid (B0.out.trans (hb_1.mono B0.out.size))
    clear hb_1 c0 c1 c2 c3
    have c0 := K1.out.cell 0
    have c1 := K1.out.cell 1
    have c2 := K1.out.cell 2
    have c3 := K1.out.cell 3
    simp at c0 c1 c2 c3
    go_wp2_with (fail)
    refine wp_region_makersE 23 fnUnits_r2_mk (LmPhi w.heap.size fnUnits_r2_L (fnUnits_r2_Z U Z) (fnUnits_r2_N nU nZ) fnUnits_r2_B) (LmSh fnUnits_r2_L (fnUnits_r2_N nU nZ) fnUnits_r2_B) (lmV0 fnUnits_r2_L (fnUnits_r2_N nU nZ) fnUnits_r2_B) probe (by kernel_rfl) (by kernel_rfl) (fun i v w w' h hb => h.next hb) (fun i v x _ h => h.sh) (fun i _ => lmSh0) ?_
    intro V hV vs hvs
    obtain ⟨A_2, c_2, e_2⟩ : ∃ A c, vs 2 = .slice A nU c := (hvs 2 rfl).l rfl
    have e_3 : vs 3 = .bool true := (hvs 3 rfl).b rfl
    obtain ⟨A_8, c_8, e_8⟩ : ∃ A c, vs 8 = .slice A nZ c := (hvs 8 rfl).l rfl
    have e_9 : vs 9 = .bool true := (hvs 9 rfl).b rfl
    have cW : ∃ x, extC V x := ⟨V, extC_of (Below.refl _ _)⟩
    have IV := Lib.hid (I1.out.next hV)
    have BV := Lib.hid (B1.out.trans (hV.mono B1.out.size))
    have KV := Lib.hid (K1.out.next hV)
    have UV := Lib.hid (U1.out.next hV)
    have ZV := Lib.hid (Z1.out.next hV)
    clear c0 c1 c2 c3
    have c0 := KV.out.cell 0
    have c1 := KV.out.cell 1
    have c2 := KV.out.cell 2
    have c3 := KV.out.cell 3
    simp at c0 c1 c2 c3
    clear hV hvs
    simp only [List.take_succ_cons, List.take_zero, List.drop_succ_cons, List.drop_zero]
    refine wpV_quietE cW 2 0 _ _ (by decide) (by decide) ?_
    simp only [List.take_succ_cons, List.take_zero, List.drop_succ_cons, List.drop_zero]
    repeat (go_big_quiet_step (first
      | (go_at_call 55; with_reducible refine calls_ext (F1.out _ (IV.out.ext _)))
      | (go_at_call 56; with_reducible refine calls_ext (F2.out _ (IV.out.ext _)))
      | (go_at_call 57; with_reducible refine calls_ext (F3.out _ (IV.out.ext _)))
      | fail))
    refine wpQuiet_nil ?_
    refine wpV_makeE rfl (by first | rfl | simp [Region.wanted, yielded]) (fun x hx hd => ?_) ?_
    · obtain ⟨u, rfl⟩ := hx
      unfold makesAtE
      go_simp
      refine ⟨rfl, (cs_kind0 (IV.out.ext u) _ EU.out).mono ?_⟩
      rintro _ x' ⟨v, rfl, ho, hb⟩
      exact ⟨_, rfl, hb, ⟨fun _ => ⟨ho.down (Nat.le_trans BV.out.size (ext_below V u).size), HnU.out⟩, fun h => by cases h⟩, fun b hbb => by cases hbb⟩
    rw [e_2]
    go_simp
    refine wpV_makeE rfl (by first | rfl | simp [Region.wanted, yielded]) (fun x hx hd => ?_) ?_
    · obtain ⟨u, rfl⟩ := hx
      have h_2 : SliceOut w.heap.size (ext V u) (vs 2) U := ((hd ⟨2, .data⟩ (by simp) rfl rfl).l rfl).1
      rw [e_2] at h_2
      unfold makesAtE
      go_simp
      refine ⟨rfl, (frSame_is (UV.out.next (ext_below V u)).at_.1 h_2.at_.1 UV.out.at_.2.2 h_2.at_.2.2 true eqL_self).mono ?_⟩
      rintro _ x' ⟨rfl, hb⟩
      exact ⟨_, rfl, hb, ⟨fun h => (by cases h), fun _ => rfl⟩, fun b hbb => by cases hbb⟩
    rw [e_3]
    go_simp
    refine wpV_quietE cW 4 _ _ _ (by decide) (by decide) ?_
    simp only [List.take_succ_cons, List.take_zero, List.drop_succ_cons, List.drop_zero]
    repeat (go_big_quiet_step (first
      | (go_at_call 55; with_reducible refine calls_ext (F1.out _ (IV.out.ext _)))
      | (go_at_call 56; with_reducible refine calls_ext (F2.out _ (IV.out.ext _)))
      | (go_at_call 57; with_reducible refine calls_ext (F3.out _ (IV.out.ext _)))
      | fail))
    refine wpQuiet_nil ?_
    refine wpV_makeE rfl (by first | rfl | simp [Region.wanted, yielded]) (fun x hx hd => ?_) ?_
    · obtain ⟨u, rfl⟩ := hx
      unfold makesAtE
      go_simp
      refine ⟨rfl, (cs_kind1 (IV.out.ext u) _ EZ.out).mono ?_⟩
      rintro _ x' ⟨v, rfl, ho, hb⟩
      exact ⟨_, rfl, hb, ⟨fun _ => ⟨ho.down (Nat.le_trans BV.out.size (ext_below V u).size), HnZ.out⟩, fun h => by cases h⟩, fun b hbb => by cases hbb⟩
    rw [e_8]
    go_simp
    refine wpV_makeE rfl (by first | rfl | simp [Region.wanted, yielded]) (fun x hx hd => ?_) ?_
    · obtain ⟨u, rfl⟩ := hx
      have h_8 : SliceOut w.heap.size (ext V u) (vs 8) Z := ((hd ⟨8, .data⟩ (by simp) rfl rfl).l rfl).1
      rw [e_8] at h_8
      unfold makesAtE
      go_simp
      refine ⟨rfl, (frSame_is (ZV.out.next (ext_below V u)).at_.1 h_8.at_.1 ZV.out.at_.2.2 h_8.at_.2.2 true eqL_self).mono ?_⟩
      rintro _ x' ⟨rfl, hb⟩
      exact ⟨_, rfl, hb, ⟨fun h => (by cases h), fun _ => rfl⟩, fun b hbb => by cases hbb⟩
    rw [e_9]
    go_simp
    refine wpV_quietE cW 13 _ _ _ (by decide) (by decide) ?_
    simp only [List.take_succ_cons, List.take_zero, List.drop_succ_cons, List.drop_zero]
    repeat (go_big_quiet_step (first
      | (go_at_call 55; with_reducible refine calls_ext (F1.out _ (IV.out.ext _)))
      | (go_at_call 56; with_reducible refine calls_ext (F2.out _ (IV.out.ext _)))
      | (go_at_call 57; with_reducible refine calls_ext (F3.out _ (IV.out.ext _)))
      | fail))
    refine wpQuiet_nil ?_
    refine wpV_nilE ?_
    intro w_2 hb_2 hF_2 _
    clear IV BV KV cW hF_2 e_2 e_3 e_8 e_9 UV ZV
    have U2 := Lib.hid (U1.out.next hb_2)
    have Z2 := Lib.hid (Z1.out.next hb_2)
    have K2 := Lib.hid (K1.out.next hb_2)
    have I2 := Lib.hid (I1.out.next hb_2)
    have B2 := Lib.hid (B1.out.trans (hb_2.mono B1.out.size))
    clear hb_2 c0 c1 c2 c3
    have c0 := K2.out.cell 0
    have c1 := K2.out.cell 1
    have c2 := K2.out.cell 2
    have c3 := K2.out.cell 3
    simp at c0 c1 c2 c3
    go_wp2_with (fail)
    refine wp_region_makersE 25 fnUnits_r3_mk (LmPhi w.heap.size fnUnits_r3_L (fnUnits_r3_Z U Z) (fnUnits_r3_N nU nZ) fnUnits_r3_B) (LmSh fnUnits_r3_L (fnUnits_r3_N nU nZ) fnUnits_r3_B) (lmV0 fnUnits_r3_L (fnUnits_r3_N nU nZ) fnUnits_r3_B) probe (by kernel_rfl) (by kernel_rfl) (fun i v w w' h hb => h.next hb) (fun i v x _ h => h.sh) (fun i _ => lmSh0) ?_
    intro V hV vs hvs
    obtain ⟨A_2, c_2, e_2⟩ : ∃ A c, vs 2 = .slice A nU c := (hvs 2 rfl).l rfl
    have e_3 : vs 3 = .bool true := (hvs 3 rfl).b rfl
    obtain ⟨A_7, c_7, e_7⟩ : ∃ A c, vs 7 = .slice A nZ c := (hvs 7 rfl).l rfl
    have e_8 : vs 8 = .bool true := (hvs 8 rfl).b rfl
    have cW : ∃ x, extC V x := ⟨V, extC_of (Below.refl _ _)⟩
    have IV := Lib.hid (I2.out.next hV)
    have BV := Lib.hid (B2.out.trans (hV.mono B2.out.size))
    have KV := Lib.hid (K2.out.next hV)
    have UV := Lib.hid (U2.out.next hV)
    have ZV := Lib.hid (Z2.out.next hV)
    clear c0 c1 c2 c3
    have c0 := KV.out.cell 0
    have c1 := KV.out.cell 1
    have c2 := KV.out.cell 2
    have c3 := KV.out.cell 3
    simp at c0 c1 c2 c3
    clear hV hvs
    simp only [List.take_succ_cons, List.take_zero, List.drop_succ_cons, List.drop_zero]
    refine wpV_quietE cW 2 0 _ _ (by decide) (by decide) ?_
    simp only [List.take_succ_cons, List.take_zero, List.drop_succ_cons, List.drop_zero]
    repeat (go_big_quiet_step (first
      | (go_at_call 55; with_reducible refine calls_ext (F1.out _ (IV.out.ext _)))
      | (go_at_call 56; with_reducible refine calls_ext (F2.out _ (IV.out.ext _)))
      | (go_at_call 57; with_reducible refine calls_ext (F3.out _ (IV.out.ext _)))
      | fail))
    refine wpQuiet_nil ?_
    refine wpV_makeE rfl (by first | rfl | simp [Region.wanted, yielded]) (fun x hx hd => ?_) ?_
    · obtain ⟨u, rfl⟩ := hx
      unfold makesAtE
      go_simp
      refine ⟨rfl, (cs_kind0 (IV.out.ext u) _ EU.out).mono ?_⟩
      rintro _ x' ⟨v, rfl, ho, hb⟩
      exact ⟨_, rfl, hb, ⟨fun _ => ⟨ho.down (Nat.le_trans BV.out.size (ext_below V u).size), HnU.out⟩, fun h => by cases h⟩, fun b hbb => by cases hbb⟩
    rw [e_2]
    go_simp
    refine wpV_makeE rfl (by first | rfl | simp [Region.wanted, yielded]) (fun x hx hd => ?_) ?_
    · obtain ⟨u, rfl⟩ := hx
      have h_2 : SliceOut w.heap.size (ext V u) (vs 2) U := ((hd ⟨2, .data⟩ (by simp) rfl rfl).l rfl).1
      rw [e_2] at h_2
      unfold makesAtE
      go_simp
      refine ⟨rfl, (frSame_is (UV.out.next (ext_below V u)).at_.1 h_2.at_.1 UV.out.at_.2.2 h_2.at_.2.2 true eqL_self).mono ?_⟩
      rintro _ x' ⟨rfl, hb⟩
      exact ⟨_, rfl, hb, ⟨fun h => (by cases h), fun _ => rfl⟩, fun b hbb => by cases hbb⟩
    rw [e_3]
    go_simp
    refine wpV_quietE cW 3 _ _ _ (by decide) (by decide) ?_
    simp only [List.take_succ_cons, List.take_zero, List.drop_succ_cons, List.drop_zero]
    repeat (go_big_quiet_step (first
      | (go_at_call 55; with_reducible refine calls_ext (F1.out _ (IV.out.ext _)))
      | (go_at_call 56; with_reducible refine calls_ext (F2.out _ (IV.out.ext _)))
      | (go_at_call 57; with_reducible refine calls_ext (F3.out _ (IV.out.ext _)))
      | fail))
    refine wpQuiet_nil ?_
    refine wpV_makeE rfl (by first | rfl | simp [Region.wanted, yielded]) (fun x hx hd => ?_) ?_
    · obtain ⟨u, rfl⟩ := hx
      unfold makesAtE
      go_simp
      refine ⟨rfl, (cs_kind1 (IV.out.ext u) _ EZ.out).mono ?_⟩
      rintro _ x' ⟨v, rfl, ho, hb⟩
      exact ⟨_, rfl, hb, ⟨fun _ => ⟨ho.down (Nat.le_trans BV.out.size (ext_below V u).size), HnZ.out⟩, fun h => by cases h⟩, fun b hbb => by cases hbb⟩
    rw [e_7]
    go_simp
    refine wpV_makeE rfl (by first | rfl | simp [Region.wanted, yielded]) (fun x hx hd => ?_) ?_
    · obtain ⟨u, rfl⟩ := hx
      have h_7 : SliceOut w.heap.size (ext V u) (vs 7) Z := ((hd ⟨7, .data⟩ (by simp) rfl rfl).l rfl).1
      rw [e_7] at h_7
      unfold makesAtE
      go_simp
      refine ⟨rfl, (frSame_is (ZV.out.next (ext_below V u)).at_.1 h_7.at_.1 ZV.out.at_.2.2 h_7.at_.2.2 true eqL_self).mono ?_⟩
      rintro _ x' ⟨rfl, hb⟩
      exact ⟨_, rfl, hb, ⟨fun h => (by cases h), fun _ => rfl⟩, fun b hbb => by cases hbb⟩
    rw [e_8]
    go_simp
    refine wpV_quietE cW 16 _ _ _ (by decide) (by decide) ?_
    simp only [List.take_succ_cons, List.take_zero, List.drop_succ_cons, List.drop_zero]
    repeat (go_big_quiet_step (first
      | (go_at_call 55; with_reducible refine calls_ext (F1.out _ (IV.out.ext _)))
      | (go_at_call 56; with_reducible refine calls_ext (F2.out _ (IV.out.ext _)))
      | (go_at_call 57; with_reducible refine calls_ext (F3.out _ (IV.out.ext _)))
      | fail))
    refine wpQuiet_nil ?_
    refine wpV_nilE ?_
    intro w_3 hb_3 hF_3 _
    clear IV BV KV cW hF_3 e_2 e_3 e_7 e_8 UV ZV
    have U3 := Lib.hid (U2.out.next hb_3)
    have Z3 := Lib.hid (Z2.out.next hb_3)
    have K3 := Lib.hid (K2.out.next hb_3)
    have I3 := Lib.hid (I2.out.next hb_3)
    have B3 := Lib.hid (B2.out.trans (hb_3.mono B2.out.size))
    clear hb_3 c0 c1 c2 c3
    have c0 := K3.out.cell 0
    have c1 := K3.out.cell 1
    have c2 := K3.out.cell 2
    have c3 := K3.out.cell 3
    simp at c0 c1 c2 c3
    go_wp2_with (fail)
    go_ret
    exact ⟨rfl, B3.out⟩
  · skip
    obtain ⟨m, e, b1, o1, b2, o2, rfl, rfl, rfl, rfl, hr, _⟩ := valid_data v1 I0.out.hX I0.out.hY I0.out.hca I0.out.hcb
    have V1 := Lib.hid v1
    have R := Lib.hid (rtab_of_valid v1)
    have hm := hr.hm
    have hm' := hr.hm'
    have he := hr.he
    have HQ := Lib.hid hr.hla
    clear hr v1
    have hup : ∀ a, a < m → divB m (tabOf Y) a = !unitB m (tabOf Y) e a := fun a ha => R.out.unit_div ha
    have lU : (kindsL m e X Y 0).length = (selTo m (unitB m (tabOf Y) e) m).length := by rw [kindsL_yes V1.out, finI_len]; rfl
    have lZ : (kindsL m e X Y 1).length = (selTo m (divB m (tabOf Y)) m).length := by rw [kindsL_yes V1.out, finI_len]; rfl
    have sUZ := sel_both hup m (Nat.le_refl _)
    have aU : ∀ a, a < m → unitB m (tabOf Y) e a = true → (selTo m (unitB m (tabOf Y) e) a).length < (kindsL m e X Y 0).length ∧ (kindsL m e X Y 0)[(selTo m (unitB m (tabOf Y) e) a).length]?.getD 0 = (a : Int) := fun a ha h => by rw [lU, kindsL_yes V1.out]; exact sel_at_yes (p := unitB m (tabOf Y) e) ha h
    have nU_ : ∀ a i, unitB m (tabOf Y) e a = false → i < (kindsL m e X Y 0).length → (kindsL m e X Y 0)[i]?.getD 0 ≠ (a : Int) := fun a i h hi => by rw [lU] at hi; rw [kindsL_yes V1.out]; exact sel_at_no (p := unitB m (tabOf Y) e) h hi
    have aZ : ∀ a, a < m → divB m (tabOf Y) a = true → (selTo m (divB m (tabOf Y)) a).length < (kindsL m e X Y 1).length ∧ (kindsL m e X Y 1)[(selTo m (divB m (tabOf Y)) a).length]?.getD 0 = (a : Int) := fun a ha h => by rw [lZ, kindsL_yes V1.out]; exact sel_at_yes (p := divB m (tabOf Y)) ha h
    have gU : (kindsL m e X Y 0).length = m - 1 ↔ (kindsL m e X Y 1).length = 1 := by rw [lU, lZ]; have := hm; omega
    obtain ⟨fv, hfv⟩ : ∃ b, fieldV m e X Y = b := ⟨_, rfl⟩
    have hfb : fv = (decide (1 < m) && decide ((kindsL m e X Y 1).length = 1)) := by
      rw [← hfv, fieldV_yes V1.out]
      unfold fieldB
      congr 1
      rw [decide_eq_decide, ← gU, lU]
    obtain ⟨U, eU⟩ : ∃ Z, kindsL m e X Y 0 = Z := ⟨_, rfl⟩
    obtain ⟨nU, hnU⟩ : ∃ n, U.length = n := ⟨_, rfl⟩
    have HnU := Lib.hid hnU
    have EU := Lib.hid eU
    clear hnU eU
    obtain ⟨Z, eZ⟩ : ∃ Z, kindsL m e X Y 1 = Z := ⟨_, rfl⟩
    obtain ⟨nZ, hnZ⟩ : ∃ n, Z.length = n := ⟨_, rfl⟩
    have HnZ := Lib.hid hnZ
    have EZ := Lib.hid eZ
    clear hnZ eZ
    rw [EU.out] at lU aU nU_
    rw [EZ.out] at lZ aZ hfb
    rw [HnU.out] at lU aU nU_
    rw [HnZ.out] at lZ aZ hfb
    clear gU
    have F1 := Lib.hid (show ∀ u, RIn u (some ⟨b1, o1, none⟩) q ca (some ⟨b2, o2, none⟩) q cb X Y → Calls Try.prog 55 #[.agg #[.int .i64 m, .int .i64 e, .slice (some ⟨b1, o1, none⟩) q ca, .slice (some ⟨b2, o2, none⟩) q cb]] u fun e' w' => e' = .returned (.bool fv) ∧ Below u.heap.size u w' from fun u h => c_field h _ hfv)
    have F2 := Lib.hid (show ∀ u, RIn u (some ⟨b1, o1, none⟩) q ca (some ⟨b2, o2, none⟩) q cb X Y → Calls Try.prog 56 #[.agg #[.int .i64 m, .int .i64 e, .slice (some ⟨b1, o1, none⟩) q ca, .slice (some ⟨b2, o2, none⟩) q cb]] u fun e' w' => e' = .returned (.bool fv) ∧ Below u.heap.size u w' from fun u h => cs_field h (by omega) _ hfv)
    have F3 := Lib.hid (show ∀ u, RIn u (some ⟨b1, o1, none⟩) q ca (some ⟨b2, o2, none⟩) q cb X Y → Calls Try.prog 57 #[.agg #[.int .i64 m, .int .i64 e, .slice (some ⟨b1, o1, none⟩) q ca, .slice (some ⟨b2, o2, none⟩) q cb]] u fun e' w' => e' = .returned (.bool true) ∧ Below u.heap.size u w' from fun u h => c_valid h _ V1.out)
    clear hfv
    have HAU := Lib.hid aU
    have HNU := Lib.hid nU_
    have HAZ := Lib.hid aZ
    have HUP := Lib.hid hup
    have LU := Lib.hid lU
    have LZ := Lib.hid lZ
    have SUZ := Lib.hid sUZ
    have HFB := Lib.hid hfb
    clear aU nU_ aZ hup lU lZ sUZ hfb
    have c0 := K0.out.cell 0
    have c1 := K0.out.cell 1
    have c2 := K0.out.cell 2
    have c3 := K0.out.cell 3
    simp at c0 c1 c2 c3
    go_wp2_with (fail)
    refine wp_region_makersE 4 fnUnits_r4_mk (LmPhi w.heap.size fnUnits_r4_L (fnUnits_r4_Z U Z) (fnUnits_r4_N nU nZ) fnUnits_r4_B) (LmSh fnUnits_r4_L (fnUnits_r4_N nU nZ) fnUnits_r4_B) (lmV0 fnUnits_r4_L (fnUnits_r4_N nU nZ) fnUnits_r4_B) probe (by kernel_rfl) (by kernel_rfl) (fun i v w w' h hb => h.next hb) (fun i v x _ h => h.sh) (fun i _ => lmSh0) ?_
    intro V hV vs hvs
    obtain ⟨A_1, c_1, e_1⟩ : ∃ A c, vs 1 = .slice A nU c := (hvs 1 rfl).l rfl
    obtain ⟨A_3, c_3, e_3⟩ : ∃ A c, vs 3 = .slice A nZ c := (hvs 3 rfl).l rfl
    have cW : ∃ x, extC V x := ⟨V, extC_of (Below.refl _ _)⟩
    have IV := Lib.hid (I0.out.next hV)
    have BV := Lib.hid (B0.out.trans (hV.mono B0.out.size))
    have KV := Lib.hid (K0.out.next hV)
    clear c0 c1 c2 c3
    have c0 := KV.out.cell 0
    have c1 := KV.out.cell 1
    have c2 := KV.out.cell 2
    have c3 := KV.out.cell 3
    simp at c0 c1 c2 c3
    clear hV hvs
    simp only [List.take_succ_cons, List.take_zero, List.drop_succ_cons, List.drop_zero]
    refine wpV_quietE cW 1 0 _ _ (by decide) (by decide) ?_
    simp only [List.take_succ_cons, List.take_zero, List.drop_succ_cons, List.drop_zero]
    repeat (go_big_quiet_step (first
      | fail))
    refine wpQuiet_nil ?_
    refine wpV_makeE rfl (by first | rfl | simp [Region.wanted, yielded]) (fun x hx hd => ?_) ?_
    · obtain ⟨u, rfl⟩ := hx
      unfold makesAtE
      go_simp
      refine ⟨rfl, (c_kind0 (IV.out.ext u) _ EU.out).mono ?_⟩
      rintro _ x' ⟨v, rfl, ho, hb⟩
      exact ⟨_, rfl, hb, ⟨fun _ => ⟨ho.down (Nat.le_trans BV.out.size (ext_below V u).size), HnU.out⟩, fun h => by cases h⟩, fun b hbb => by cases hbb⟩
    rw [e_1]
    go_simp
    refine wpV_quietE cW 1 _ _ _ (by decide) (by decide) ?_
    simp only [List.take_succ_cons, List.take_zero, List.drop_succ_cons, List.drop_zero]
    repeat (go_big_quiet_step (first
      | fail))
    refine wpQuiet_nil ?_
    refine wpV_makeE rfl (by first | rfl | simp [Region.wanted, yielded]) (fun x hx hd => ?_) ?_
    · obtain ⟨u, rfl⟩ := hx
      unfold makesAtE
      go_simp
      refine ⟨rfl, (c_kind1 (IV.out.ext u) _ EZ.out).mono ?_⟩
      rintro _ x' ⟨v, rfl, ho, hb⟩
      exact ⟨_, rfl, hb, ⟨fun _ => ⟨ho.down (Nat.le_trans BV.out.size (ext_below V u).size), HnZ.out⟩, fun h => by cases h⟩, fun b hbb => by cases hbb⟩
    rw [e_3]
    go_simp
    refine wpV_nilE ?_
    intro w_1 hb_1 hF_1 _
    have U1 : SliceOut w.heap.size w_1 (vs 1) U := ((hF_1 1 (by omega) rfl).l rfl).1
    rw [e_1] at U1
    have U1 := Lib.hid U1
    have Z1 : SliceOut w.heap.size w_1 (vs 3) Z := ((hF_1 3 (by omega) rfl).l rfl).1
    rw [e_3] at Z1
    have Z1 := Lib.hid Z1
    clear IV BV KV cW hF_1 e_1 e_3
    have K1 := Lib.hid (K0.out.next hb_1)
    have I1 := Lib.hid (I0.out.next hb_1)
    have B1 := Lib.hid (B0.out.trans (hb_1.mono B0.out.size))
    clear hb_1 c0 c1 c2 c3
    have c0 := K1.out.cell 0
    have c1 := K1.out.cell 1
    have c2 := K1.out.cell 2
    have c3 := K1.out.cell 3
    simp at c0 c1 c2 c3
    go_wp2_with (fail)
    refine wp_region_makersE 23 fnUnits_r5_mk (LmPhi w.heap.size fnUnits_r5_L (fnUnits_r5_Z U Z) (fnUnits_r5_N nU nZ) fnUnits_r5_B) (LmSh fnUnits_r5_L (fnUnits_r5_N nU nZ) fnUnits_r5_B) (lmV0 fnUnits_r5_L (fnUnits_r5_N nU nZ) fnUnits_r5_B) probe (by kernel_rfl) (by kernel_rfl) (fun i v w w' h hb => h.next hb) (fun i v x _ h => h.sh) (fun i _ => lmSh0) ?_
    intro V hV vs hvs
    obtain ⟨A_2, c_2, e_2⟩ : ∃ A c, vs 2 = .slice A nU c := (hvs 2 rfl).l rfl
    have e_3 : vs 3 = .bool true := (hvs 3 rfl).b rfl
    obtain ⟨A_8, c_8, e_8⟩ : ∃ A c, vs 8 = .slice A nZ c := (hvs 8 rfl).l rfl
    have e_9 : vs 9 = .bool true := (hvs 9 rfl).b rfl
    have cW : ∃ x, extC V x := ⟨V, extC_of (Below.refl _ _)⟩
    have IV := Lib.hid (I1.out.next hV)
    have BV := Lib.hid (B1.out.trans (hV.mono B1.out.size))
    have KV := Lib.hid (K1.out.next hV)
    have UV := Lib.hid (U1.out.next hV)
    have ZV := Lib.hid (Z1.out.next hV)
    clear c0 c1 c2 c3
    have c0 := KV.out.cell 0
    have c1 := KV.out.cell 1
    have c2 := KV.out.cell 2
    have c3 := KV.out.cell 3
    simp at c0 c1 c2 c3
    clear hV hvs
    simp only [List.take_succ_cons, List.take_zero, List.drop_succ_cons, List.drop_zero]
    refine wpV_quietE cW 2 0 _ _ (by decide) (by decide) ?_
    simp only [List.take_succ_cons, List.take_zero, List.drop_succ_cons, List.drop_zero]
    repeat (go_big_quiet_step (first
      | (go_at_call 55; with_reducible refine calls_ext (F1.out _ (IV.out.ext _)))
      | (go_at_call 56; with_reducible refine calls_ext (F2.out _ (IV.out.ext _)))
      | (go_at_call 57; with_reducible refine calls_ext (F3.out _ (IV.out.ext _)))
      | fail))
    refine wpQuiet_nil ?_
    refine wpV_makeE rfl (by first | rfl | simp [Region.wanted, yielded]) (fun x hx hd => ?_) ?_
    · obtain ⟨u, rfl⟩ := hx
      unfold makesAtE
      go_simp
      refine ⟨rfl, (cs_kind0 (IV.out.ext u) _ EU.out).mono ?_⟩
      rintro _ x' ⟨v, rfl, ho, hb⟩
      exact ⟨_, rfl, hb, ⟨fun _ => ⟨ho.down (Nat.le_trans BV.out.size (ext_below V u).size), HnU.out⟩, fun h => by cases h⟩, fun b hbb => by cases hbb⟩
    rw [e_2]
    go_simp
    refine wpV_makeE rfl (by first | rfl | simp [Region.wanted, yielded]) (fun x hx hd => ?_) ?_
    · obtain ⟨u, rfl⟩ := hx
      have h_2 : SliceOut w.heap.size (ext V u) (vs 2) U := ((hd ⟨2, .data⟩ (by simp) rfl rfl).l rfl).1
      rw [e_2] at h_2
      unfold makesAtE
      go_simp
      refine ⟨rfl, (frSame_is (UV.out.next (ext_below V u)).at_.1 h_2.at_.1 UV.out.at_.2.2 h_2.at_.2.2 true eqL_self).mono ?_⟩
      rintro _ x' ⟨rfl, hb⟩
      exact ⟨_, rfl, hb, ⟨fun h => (by cases h), fun _ => rfl⟩, fun b hbb => by cases hbb⟩
    rw [e_3]
    go_simp
    refine wpV_quietE cW 4 _ _ _ (by decide) (by decide) ?_
    simp only [List.take_succ_cons, List.take_zero, List.drop_succ_cons, List.drop_zero]
    repeat (go_big_quiet_step (first
      | (go_at_call 55; with_reducible refine calls_ext (F1.out _ (IV.out.ext _)))
      | (go_at_call 56; with_reducible refine calls_ext (F2.out _ (IV.out.ext _)))
      | (go_at_call 57; with_reducible refine calls_ext (F3.out _ (IV.out.ext _)))
      | fail))
    refine wpQuiet_nil ?_
    refine wpV_makeE rfl (by first | rfl | simp [Region.wanted, yielded]) (fun x hx hd => ?_) ?_
    · obtain ⟨u, rfl⟩ := hx
      unfold makesAtE
      go_simp
      refine ⟨rfl, (cs_kind1 (IV.out.ext u) _ EZ.out).mono ?_⟩
      rintro _ x' ⟨v, rfl, ho, hb⟩
      exact ⟨_, rfl, hb, ⟨fun _ => ⟨ho.down (Nat.le_trans BV.out.size (ext_below V u).size), HnZ.out⟩, fun h => by cases h⟩, fun b hbb => by cases hbb⟩
    rw [e_8]
    go_simp
    refine wpV_makeE rfl (by first | rfl | simp [Region.wanted, yielded]) (fun x hx hd => ?_) ?_
    · obtain ⟨u, rfl⟩ := hx
      have h_8 : SliceOut w.heap.size (ext V u) (vs 8) Z := ((hd ⟨8, .data⟩ (by simp) rfl rfl).l rfl).1
      rw [e_8] at h_8
      unfold makesAtE
      go_simp
      refine ⟨rfl, (frSame_is (ZV.out.next (ext_below V u)).at_.1 h_8.at_.1 ZV.out.at_.2.2 h_8.at_.2.2 true eqL_self).mono ?_⟩
      rintro _ x' ⟨rfl, hb⟩
      exact ⟨_, rfl, hb, ⟨fun h => (by cases h), fun _ => rfl⟩, fun b hbb => by cases hbb⟩
    rw [e_9]
    go_simp
    refine wpV_quietE cW 13 _ _ _ (by decide) (by decide) ?_
    simp only [List.take_succ_cons, List.take_zero, List.drop_succ_cons, List.drop_zero]
    repeat (go_big_quiet_step (first
      | (go_at_call 55; with_reducible refine calls_ext (F1.out _ (IV.out.ext _)))
      | (go_at_call 56; with_reducible refine calls_ext (F2.out _ (IV.out.ext _)))
      | (go_at_call 57; with_reducible refine calls_ext (F3.out _ (IV.out.ext _)))
      | fail))
    refine wpQuiet_nil ?_
    refine wpV_nilE ?_
    intro w_2 hb_2 hF_2 _
    clear IV BV KV cW hF_2 e_2 e_3 e_8 e_9 UV ZV
    have U2 := Lib.hid (U1.out.next hb_2)
    have Z2 := Lib.hid (Z1.out.next hb_2)
    have K2 := Lib.hid (K1.out.next hb_2)
    have I2 := Lib.hid (I1.out.next hb_2)
    have B2 := Lib.hid (B1.out.trans (hb_2.mono B1.out.size))
    clear hb_2 c0 c1 c2 c3
    have c0 := K2.out.cell 0
    have c1 := K2.out.cell 1
    have c2 := K2.out.cell 2
    have c3 := K2.out.cell 3
    simp at c0 c1 c2 c3
    have bU : nU ≤ m := by have := SUZ.out; have := LU.out; omega
    have bZ : nZ ≤ m := by have := SUZ.out; have := LZ.out; omega
    go_wp2_with (fail)
    go_loopw [6, 7, 69] (fun iv kv av wr => ∃ a : Nat, a ≤ m ∧ av = .int .i64 a ∧ iv = .int .i64 ((selTo m (unitB m (tabOf Y) e) a).length : Nat) ∧ kv = .int .i64 ((selTo m (divB m (tabOf Y)) a).length : Nat) ∧ wr = w_2) (fun _ _ av _ => m - (intOf av).toNat)
    case atStart => exact ⟨0, Nat.zero_le _, rfl, rfl, rfl, rfl⟩
    case round =>
      obtain ⟨a, ha, rfl, rfl, rfl, rfl⟩ := hrel
      obtain ⟨i, hi⟩ : ∃ i, (selTo m (unitB m (tabOf Y) e) a).length = i := ⟨_, rfl⟩
      obtain ⟨k, hk⟩ : ∃ k, (selTo m (divB m (tabOf Y)) a).length = k := ⟨_, rfl⟩
      have hik : i + k = a := by rw [← hi, ← hk]; exact sel_both HUP.out a ha
      rw [hi, hk]
      by_cases hlt : a < m
      · have hu1 := HUP.out a hlt
        have st1 := sel_step (p := unitB m (tabOf Y) e) hlt
        have st2 := sel_step (p := divB m (tabOf Y)) hlt
        rw [hi] at st1
        rw [hk] at st2
        cases hub : unitB m (tabOf Y) e a
        · skip
          have hdb : divB m (tabOf Y) a = true := by rw [hu1, hub]; rfl
          rw [hub] at st1
          rw [hdb] at st2
          simp only [if_true, if_false, Bool.false_eq_true] at st1 st2
          obtain ⟨lt2, g2⟩ := HAZ.out a hlt hdb
          rw [hk] at lt2 g2
          obtain ⟨bz, oz, eZ', _, hcz⟩ := Z2.out.at_.1.at_ lt2
          rw [g2] at hcz
          subst eZ'
          have ST := Lib.hid (And.intro st1 st2)
          by_cases lt1 : i < nU
          · have g1 := HNU.out a i hub lt1
            obtain ⟨bb, oo, eA, _, hcell⟩ := U2.out.at_.1.at_ lt1
            subst eA
            obtain ⟨x, hx⟩ : ∃ x, U[i]?.getD 0 = x := ⟨_, rfl⟩
            rw [hx] at g1 hcell
            have tx : (x == (a : Int)) = false := by rw [beq_eq_false_iff_ne]; exact g1
            clear st1 st2 g1 g2 hub hdb hu1 hx
            go_wp2
            go_roundw
            case rel => exact ⟨a + 1, by omega, by go_num, by rw [ST.out.1]; go_num, by rw [ST.out.2]; go_num, by first | rfl | trivial⟩
            case measure => simp [intOf]; omega
          · clear st1 st2 g2 hub hdb hu1
            go_wp2
            go_roundw
            case rel => exact ⟨a + 1, by omega, by go_num, by rw [ST.out.1]; go_num, by rw [ST.out.2]; go_num, by first | rfl | trivial⟩
            case measure => simp [intOf]; omega
        · skip
          have hdb : divB m (tabOf Y) a = false := by rw [hu1, hub]; rfl
          rw [hub] at st1
          rw [hdb] at st2
          simp only [if_true, if_false, Bool.false_eq_true] at st1 st2
          obtain ⟨lt1, g1⟩ := HAU.out a hlt hub
          rw [hi] at lt1 g1
          obtain ⟨bb, oo, eA, _, hcell⟩ := U2.out.at_.1.at_ lt1
          rw [g1] at hcell
          subst eA
          have ST := Lib.hid (And.intro st1 st2)
          clear st1 st2 g1 hub hdb hu1
          go_wp2
          go_roundw
          case rel => exact ⟨a + 1, by omega, by go_num, by rw [ST.out.1]; go_num, by rw [ST.out.2]; go_num, by first | rfl | trivial⟩
          case measure => simp [intOf]; omega
      · have ham : a = m := by omega
        have e1 : i = nU := by rw [← hi, ham]; exact LU.out.symm
        have e2 : k = nZ := by rw [← hk, ham]; exact LZ.out.symm
        have hfb := HFB.out
        subst e1 e2
        clear hi hk
        by_cases hm1 : 1 < m
        · rcases Nat.lt_trichotomy k 1 with hk1 | hk1 | hk1
          · have t1 : ((k : Int) == 1) = false := by rw [beq_eq_false_iff_ne]; omega
            have hf2 : fv = false := by rw [hfb]; simp; omega
            subst hf2
            clear hfb
            have tm : decide ((m : Int) > 1) = true := by simp; omega
            go_wp2_with (fail)
            refine wp_region_ext (by kernel_rfl) (by kernel_rfl) ?_
            repeat (go_big_quiet_step (first
              | (go_at_call 55; with_reducible refine calls_ext (F1.out _ (I2.out.ext _)))
              | fail))
            refine wpQuiet_nil ?_
            intro w_3 hb_3
            have U3 := Lib.hid (U2.out.next hb_3)
            have Z3 := Lib.hid (Z2.out.next hb_3)
            have K3 := Lib.hid (K2.out.next hb_3)
            have I3 := Lib.hid (I2.out.next hb_3)
            have B3 := Lib.hid (B2.out.trans (hb_3.mono B2.out.size))
            clear hb_3 c0 c1 c2 c3
            have c0 := K3.out.cell 0
            have c1 := K3.out.cell 1
            have c2 := K3.out.cell 2
            have c3 := K3.out.cell 3
            simp at c0 c1 c2 c3
            go_wp2_with (fail)
            go_ret
            exact ⟨rfl, B3.out⟩
          · subst hk1
            have hf2 : fv = true := by rw [hfb]; simp; exact hm1
            subst hf2
            clear hfb
            have tm : decide ((m : Int) > 1) = true := by simp; omega
            go_wp2_with (fail)
            refine wp_region_ext (by kernel_rfl) (by kernel_rfl) ?_
            repeat (go_big_quiet_step (first
              | (go_at_call 55; with_reducible refine calls_ext (F1.out _ (I2.out.ext _)))
              | fail))
            refine wpQuiet_nil ?_
            intro w_3 hb_3
            have U3 := Lib.hid (U2.out.next hb_3)
            have Z3 := Lib.hid (Z2.out.next hb_3)
            have K3 := Lib.hid (K2.out.next hb_3)
            have I3 := Lib.hid (I2.out.next hb_3)
            have B3 := Lib.hid (B2.out.trans (hb_3.mono B2.out.size))
            clear hb_3 c0 c1 c2 c3
            have c0 := K3.out.cell 0
            have c1 := K3.out.cell 1
            have c2 := K3.out.cell 2
            have c3 := K3.out.cell 3
            simp at c0 c1 c2 c3
            go_wp2_with (fail)
            go_ret
            exact ⟨rfl, B3.out⟩
          · have t1 : ((k : Int) == 1) = false := by rw [beq_eq_false_iff_ne]; omega
            have hf2 : fv = false := by rw [hfb]; simp; omega
            subst hf2
            clear hfb
            have tm : decide ((m : Int) > 1) = true := by simp; omega
            go_wp2_with (fail)
            refine wp_region_ext (by kernel_rfl) (by kernel_rfl) ?_
            repeat (go_big_quiet_step (first
              | (go_at_call 55; with_reducible refine calls_ext (F1.out _ (I2.out.ext _)))
              | fail))
            refine wpQuiet_nil ?_
            intro w_3 hb_3
            have U3 := Lib.hid (U2.out.next hb_3)
            have Z3 := Lib.hid (Z2.out.next hb_3)
            have K3 := Lib.hid (K2.out.next hb_3)
            have I3 := Lib.hid (I2.out.next hb_3)
            have B3 := Lib.hid (B2.out.trans (hb_3.mono B2.out.size))
            clear hb_3 c0 c1 c2 c3
            have c0 := K3.out.cell 0
            have c1 := K3.out.cell 1
            have c2 := K3.out.cell 2
            have c3 := K3.out.cell 3
            simp at c0 c1 c2 c3
            go_wp2_with (fail)
            go_ret
            exact ⟨rfl, B3.out⟩
        · have hf2 : fv = false := by rw [hfb]; simp; omega
          subst hf2
          clear hfb
          have tm : decide ((m : Int) > 1) = false := by simp; omega
          go_wp2_with (fail)
          refine wp_region_ext (by kernel_rfl) (by kernel_rfl) ?_
          repeat (go_big_quiet_step (first
            | (go_at_call 55; with_reducible refine calls_ext (F1.out _ (I2.out.ext _)))
            | fail))
          refine wpQuiet_nil ?_
          intro w_3 hb_3
          have U3 := Lib.hid (U2.out.next hb_3)
          have Z3 := Lib.hid (Z2.out.next hb_3)
          have K3 := Lib.hid (K2.out.next hb_3)
          have I3 := Lib.hid (I2.out.next hb_3)
          have B3 := Lib.hid (B2.out.trans (hb_3.mono B2.out.size))
          clear hb_3 c0 c1 c2 c3
          have c0 := K3.out.cell 0
          have c1 := K3.out.cell 1
          have c2 := K3.out.cell 2
          have c3 := K3.out.cell 3
          simp at c0 c1 c2 c3
          go_wp2_with (fail)
          go_ret
          exact ⟨rfl, B3.out⟩

end Go.Proofs.Yteoodcgppidomaa
