/- Texts of this seat in one: CM CN. -/
import Derived.Test.YtahdkdpliphcnaaNI
import Derived.Test.YtahdkdpliphcnaaNJ
import Derived.Test.YtahdkdpliphcnaaMV
import Derived.Test.YtahdkdpliphcnaaMG
import Derived.Test.YtahdkdpliphcnaaNH

/- Codes: SolveSystem of both sides. -/
namespace Go.Proofs.Ytahdkdpliphcnaa
open Go.RowKit Go.Shelf
set_option maxRecDepth 100000

/-- What SolveSystem hands back. -/
noncomputable def sysB (n o : Int) (X Y : List Int) (N : Int) (RR : List (List Int)) (VV : List Int) : Bool := spcB n o X Y N RR && (decide (VV.length = RR.length) && allB n VV)
noncomputable def sysL (n o : Int) (X Y : List Int) (N : Int) (RR : List (List Int)) (VV : List Int) : List (List Int) := @ite _ (sysB n o X Y N RR VV = true) (Classical.propDecidable _) (solL n.toNat (tabOf X) (tabOf Y) N.toNat RR VV (n.toNat ^ N.toNat)) []
section
variable {n o N : Int} {X Y : List Int} {RR : List (List Int)} {VV : List Int}
theorem sys_s (h : spcB n o X Y N RR = false) : sysB n o X Y N RR VV = false := by unfold sysB; rw [h]; rfl
theorem sys_l (h : ¬ VV.length = RR.length) : sysB n o X Y N RR VV = false := by unfold sysB; rw [decide_eq_false h]; simp
theorem sys_a (h : allB n VV = false) : sysB n o X Y N RR VV = false := by unfold sysB; rw [h]; simp
theorem sys_yes (h1 : spcB n o X Y N RR = true) (h2 : VV.length = RR.length) (h3 : allB n VV = true) : sysB n o X Y N RR VV = true := by unfold sysB; rw [h1, decide_eq_true h2, h3]; rfl
theorem sys_data (h : sysB n o X Y N RR VV = true) : spcB n o X Y N RR = true ∧ VV.length = RR.length ∧ allB n VV = true := by
  unfold sysB at h
  rw [Bool.and_eq_true, Bool.and_eq_true, decide_eq_true_eq] at h
  exact h
theorem sysL_no (h : sysB n o X Y N RR VV = false) : sysL n o X Y N RR VV = [] := @if_neg _ (Classical.propDecidable _) (by rw [h]; simp) _ _ _
theorem sysL_yes {m k : Nat} (h : sysB (m : Int) o X Y (k : Int) RR VV = true) : sysL (m : Int) o X Y (k : Int) RR VV = solL m (tabOf X) (tabOf Y) k RR VV (m ^ k) := @if_pos _ (Classical.propDecidable _) h _ _ _
theorem spc_rows {m k : Nat} (h : spcB (m : Int) o X Y (k : Int) RR = true) : 1 ≤ m ∧ m ≤ 16 ∧ (1 ≤ k ∧ k ≤ 4) ∧ m ^ k ≤ 300 ∧ RR.length ≤ 300 ∧ RowsOk m k RR := by
  obtain ⟨h1, h2, h3⟩ := spc_data h
  obtain ⟨m', e, h4, h5⟩ := pol_valid_size h1
  rw [Int.toNat_natCast, Int.toNat_natCast] at h2
  refine ⟨by omega, by omega, by omega, h2.2.2.1, h2.2.2.2, fun i Z hZ => ?_⟩
  obtain ⟨h6, h7⟩ := h3 i Z hZ
  obtain ⟨f1, f2⟩ := all_data h7
  obtain rfl : Z.length = k := by omega
  exact ⟨rfl, f1, f2⟩
theorem sys_shape : (sysL n o X Y N RR VV).length ≤ 300 ∧ ∀ (i : Nat) (Z : List Int), (sysL n o X Y N RR VV)[i]? = some Z → 0 < Z.length ∧ Z.length ≤ 4 := by
  cases h : sysB n o X Y N RR VV
  · rw [sysL_no h]
    exact ⟨by simp, fun i Z hZ => by simp at hZ⟩
  · obtain ⟨h1, _, _⟩ := sys_data h
    obtain ⟨m, rfl, _, _⟩ := pol_valid_size (spc_data h1).1
    obtain ⟨k, rfl⟩ := Int.eq_ofNat_of_zero_le (show 0 ≤ N by have := (spc_data h1).2.1.1; omega)
    obtain ⟨hm, hm', hn, hq, hr, hro⟩ := spc_rows h1
    rw [sysL_yes h]
    refine ⟨Nat.le_trans solL_len hq, fun i Z hZ => ?_⟩
    have := solL_length hZ
    omega
theorem sys_off : offN (lsZ (sysL n o X Y N RR VV)) (sysL n o X Y N RR VV).length ≤ 1048570 := by
  obtain ⟨h1, h2⟩ := sys_shape (n := n) (o := o) (X := X) (Y := Y) (N := N) (RR := RR) (VV := VV)
  have h4 : ∀ i, lsZ (sysL n o X Y N RR VV) i ≤ 4 := fun i => by
    unfold lsZ fZ
    cases hh : (sysL n o X Y N RR VV)[i]? with
    | none => simp
    | some Z => exact (h2 i Z hh).2
  have hoff : ∀ k, offN (lsZ (sysL n o X Y N RR VV)) k ≤ k * 4 := fun k => by
    induction k with
    | zero => exact Nat.le_refl _
    | succ k ih => have := h4 k; show offN _ k + lsZ _ k ≤ _; omega
  have := hoff (sysL n o X Y N RR VV).length
  omega
end
theorem valid_comm {m e b1 o1 la ca b2 o2 lb cb : Nat} {o : Int} {X Y : List Int} {w : World} (hv : validB (m : Int) o X Y = true) (_hr : RingAt w m e b1 o1 la ca b2 o2 lb cb (tabOf X) (tabOf Y)) : ∀ x y, x < m → y < m → tabOf Y (x * m + y) = tabOf Y (y * m + x) := fun x y hx hy => by
  unfold validB at hv
  rw [Bool.and_eq_true, laws_iff, Int.toNat_natCast] at hv
  exact hv.2.2.1.comm hx hy

set_option maxHeartbeats 8000000 in
theorem srawSys_any (n o N : Int) (A B C : Option Addr) (la ca lb cb lv cv : Nat) (X Y : List Int) (RR : List (List Int)) (VV : List Int) (v : Value) (w : World) (hX : Ints w w.heap.size A la X) (hY : Ints w w.heap.size B lb Y) (hR : Rws w w.heap.size v RR) (hV : Ints w w.heap.size C lv VV) (hla : la ≤ 9223372036854775807) (hlb : lb ≤ 9223372036854775807) (hca : la ≤ ca) (hcb : lb ≤ cb) (hlr : RR.length ≤ 9223372036854775807) (hlv : lv ≤ 9223372036854775807) :
    Calls Try.prog 49 #[.agg #[.int .i64 n, .int .i64 o, .slice A la ca, .slice B lb cb], .int .i64 N, v, .slice C lv cv] w fun e' w' => ∃ v', e' = .returned (.tuple #[v', .bool (sysB n o X Y N RR VV)]) ∧ LLo w.heap.size w' v' (sysL n o X Y N RR VV) ∧ Below w.heap.size w w' := by
  have hVL := hV.1
  obtain ⟨nr, hnr⟩ : ∃ x, RR.length = x := ⟨_, rfl⟩
  have HNR := Lib.hid hnr
  obtain ⟨W, hW⟩ : ∃ W, w.alloc (.cells #[.int .i64 n, .int .i64 o, .slice A la ca, .slice B lb cb] 27) = W := ⟨_, rfl⟩
  have k0 : Blk W w.heap.size 27 #[.int .i64 n, .int .i64 o, .slice A la ca, .slice B lb cb] := by subst hW; exact Blk.new w _ _
  have b0 : Below w.heap.size w W := by subst hW; exact (Below.refl _ _).alloc (Nat.le_refl _) _
  have HX := Lib.hid (hX.next b0)
  have HY := Lib.hid (hY.next b0)
  have HR := Lib.hid (hR.next b0)
  have HV := Lib.hid (hV.next b0)
  have HX0 := Lib.hid hX
  have HY0 := Lib.hid hY
  have K0 := Lib.hid k0
  have B0 := Lib.hid b0
  have HW := Lib.hid hW
  have HLR := Lib.hid hlr
  have HVL := Lib.hid hVL
  have HH := Lib.hid (show wrap64 (n - 1) = hiOf n from rfl)
  have hs0 := k0.lt
  obtain ⟨c0, c1, c2, c3⟩ := blk4 k0
  obtain ⟨Ar, cr, rfl, _⟩ := hR
  rw [hnr] at hlr HR ⊢
  clear hX hY hV k0 b0 hW hnr hVL
  cases hs : spcB n o X Y N RR
  · have hz := Lib.hid (sys_s (VV := VV) hs)
    go_enter Try.func49, Try.ntmps49
    go_wp2_with (fail)
    rw [HW.out]
    go_wp2_with (first
      | (go_at_call 39; (with_reducible refine (l10Valid_any _ _ _ _ _ _ _ _ _ X Y RR _ _ HX.out HY.out HR.out hla hlb hca hcb HLR.out).mono ?_); rintro e1 w1 ⟨rfl, hb1⟩; rw [hs]; have B1 := Lib.hid (below_step B0.out hb1); have K1 := Lib.hid (K0.out.next hb1); have V1 := Lib.hid (HV.out.next hb1); have R1 := Lib.hid (HR.out.next hb1); clear hb1; clear c0 c1 c2 c3; obtain ⟨c0, c1, c2, c3⟩ := blk4 K1.out)
      | fail)
    have hsx := B1.out.size
    go_ret2
    refine ⟨_, by rw [hz.out]; rfl, ?_, B1.out.alloc hsx _⟩
    rw [sysL_no hz.out]
    refine LLo.empty ?_
    have := own_lit_K (w := w1) (base := w.heap.size) (e := 22) [] hsx (by unfold maxLen; simp)
    simpa using this
  by_cases hll : lv = nr
  rotate_left
  · have hz := Lib.hid (sys_l (n := n) (o := o) (X := X) (Y := Y) (N := N) (RR := RR) (VV := VV) (by rw [HVL.out, HNR.out]; exact hll))
    have t1 : ((lv : Int) != (nr : Int)) = true := by rw [bne_iff_ne]; omega
    have t2 : ((lv : Int) == (nr : Int)) = false := by rw [beq_eq_false_iff_ne]; omega
    go_enter Try.func49, Try.ntmps49
    go_wp2_with (fail)
    rw [HW.out]
    go_wp2_with (first
      | (go_at_call 39; (with_reducible refine (l10Valid_any _ _ _ _ _ _ _ _ _ X Y RR _ _ HX.out HY.out HR.out hla hlb hca hcb HLR.out).mono ?_); rintro e1 w1 ⟨rfl, hb1⟩; rw [hs]; have B1 := Lib.hid (below_step B0.out hb1); have K1 := Lib.hid (K0.out.next hb1); have V1 := Lib.hid (HV.out.next hb1); have R1 := Lib.hid (HR.out.next hb1); clear hb1; clear c0 c1 c2 c3; obtain ⟨c0, c1, c2, c3⟩ := blk4 K1.out)
      | fail)
    have hsx := B1.out.size
    go_ret2
    refine ⟨_, by rw [hz.out]; rfl, ?_, B1.out.alloc hsx _⟩
    rw [sysL_no hz.out]
    refine LLo.empty ?_
    have := own_lit_K (w := w1) (base := w.heap.size) (e := 22) [] hsx (by unfold maxLen; simp)
    simpa using this
  subst hll
  have t1 : ((lv : Int) != (lv : Int)) = false := by simp
  have hvd := (spc_data hs).1
  cases he : elB (hiOf n) VV
  · have hz := Lib.hid (sys_a (o := o) (X := X) (Y := Y) (N := N) (RR := RR) (by rw [← elB_valid hvd]; exact he))
    go_enter Try.func49, Try.ntmps49
    go_wp2_with (fail)
    rw [HW.out]
    go_wp2_with (first
      | (go_at_call 39; (with_reducible refine (l10Valid_any _ _ _ _ _ _ _ _ _ X Y RR _ _ HX.out HY.out HR.out hla hlb hca hcb HLR.out).mono ?_); rintro e1 w1 ⟨rfl, hb1⟩; rw [hs]; have B1 := Lib.hid (below_step B0.out hb1); have K1 := Lib.hid (K0.out.next hb1); have V1 := Lib.hid (HV.out.next hb1); have R1 := Lib.hid (HR.out.next hb1); clear hb1; clear c0 c1 c2 c3; obtain ⟨c0, c1, c2, c3⟩ := blk4 K1.out)
      | (go_at_call 43; (with_reducible refine (l1Elements_any _ _ C _ _ VV _ _ HH.out V1.out hlv).mono ?_); rintro e2 w2 ⟨rfl, rfl⟩; rw [he]; have V2 := Lib.hid V1.out; clear V1)
      | fail)
    have hsx := B1.out.size
    go_ret2
    refine ⟨_, by rw [hz.out]; rfl, ?_, B1.out.alloc hsx _⟩
    rw [sysL_no hz.out]
    refine LLo.empty ?_
    have := own_lit_K (w := w1) (base := w.heap.size) (e := 22) [] hsx (by unfold maxLen; simp)
    simpa using this
  have hz := Lib.hid (sys_yes hs (by rw [HVL.out, HNR.out]) (by rw [← elB_valid hvd]; exact he))
  obtain ⟨k, rfl⟩ := Int.eq_ofNat_of_zero_le (show 0 ≤ N by have := (spc_data hs).2.1.1; omega)
  obtain ⟨m, e, b1, o1, b2, o2, rfl, rfl, rfl, rfl, hr, _, _, _, _, _⟩ := valid_data hvd HX0.out HY0.out hca hcb
  have HRG := Lib.hid (hr.next B0.out)
  have HCM := Lib.hid (valid_comm hvd hr)
  obtain ⟨_, _, hk, hq, hr3, hro⟩ := spc_rows hs
  have HRO := Lib.hid hro
  have hr3' : lv ≤ 300 := by rw [HNR.out] at hr3; exact hr3
  clear hr hro hvd hr3
  go_enter Try.func49, Try.ntmps49
  go_wp2_with (fail)
  rw [HW.out]
  go_wp2_with (first
      | (go_at_call 39; (with_reducible refine (l10Valid_any _ _ _ _ _ _ _ _ _ X Y RR _ _ HX.out HY.out HR.out hla hlb hca hcb HLR.out).mono ?_); rintro e1 w1 ⟨rfl, hb1⟩; rw [hs]; have B1 := Lib.hid (below_step B0.out hb1); have K1 := Lib.hid (K0.out.next hb1); have V1 := Lib.hid (HV.out.next hb1); have R1 := Lib.hid (HR.out.next hb1); have G1 := Lib.hid (HRG.out.next hb1); clear hb1; clear c0 c1 c2 c3; obtain ⟨c0, c1, c2, c3⟩ := blk4 K1.out)
      | (go_at_call 43; (with_reducible refine (l1Elements_any _ _ C _ _ VV _ _ HH.out V1.out hlv).mono ?_); rintro e2 w2 ⟨rfl, rfl⟩; rw [he]; have V2 := Lib.hid V1.out; clear V1)
      | (go_at_call 83; (with_reducible refine (l10Solve_any k C lv _ RR VV _ m e b1 o1 la ca b2 o2 lb cb (tabOf X) (tabOf Y) _ G1.out hk R1.out V2.out HNR.out hr3' hq HRO.out HCM.out).mono ?_); rintro e4 w4 ⟨v4, rfl, ho4, hb4⟩; have O4 := Lib.hid ho4; have B4 := Lib.hid (below_step B1.out hb4); clear hb4 ho4)
      | fail)
  have hsx := B1.out.size
  go_ret2
  exact ⟨_, by rw [hz.out]; rfl, by rw [sysL_yes hz.out]; exact O4.out.downL hsx, B4.out⟩

set_option maxHeartbeats 4000000 in
theorem sSys_any (n o N : Int) (A B C : Option Addr) (la ca lb cb lv cv : Nat) (X Y : List Int) (RR : List (List Int)) (VV : List Int) (v : Value) (w : World) (hX : Ints w w.heap.size A la X) (hY : Ints w w.heap.size B lb Y) (hR : Rws w w.heap.size v RR) (hV : Ints w w.heap.size C lv VV) (hla : la ≤ 9223372036854775807) (hlb : lb ≤ 9223372036854775807) (hca : la ≤ ca) (hcb : lb ≤ cb) (hlr : RR.length ≤ 9223372036854775807) (hlv : lv ≤ 9223372036854775807) :
    Calls Try.prog 20 #[.agg #[.int .i64 n, .int .i64 o, .slice A la ca, .slice B lb cb], .int .i64 N, v, .slice C lv cv] w fun e' w' => ∃ v', e' = .returned (.tuple #[v', .bool (sysB n o X Y N RR VV)]) ∧ LLr w' v' (sysL n o X Y N RR VV) ∧ Below w.heap.size w w' := by
  obtain ⟨s1, s2⟩ := sys_shape (n := n) (o := o) (X := X) (Y := Y) (N := N) (RR := RR) (VV := VV)
  have S1 := Lib.hid s1
  have S2 := Lib.hid s2
  clear s1 s2
  have hVL := hV.1
  obtain ⟨nr, hnr⟩ : ∃ x, RR.length = x := ⟨_, rfl⟩
  have HNR := Lib.hid hnr
  obtain ⟨W, hW⟩ : ∃ W, w.alloc (.cells #[.int .i64 n, .int .i64 o, .slice A la ca, .slice B lb cb] 27) = W := ⟨_, rfl⟩
  have k0 : Blk W w.heap.size 27 #[.int .i64 n, .int .i64 o, .slice A la ca, .slice B lb cb] := by subst hW; exact Blk.new w _ _
  have b0 : Below w.heap.size w W := by subst hW; exact (Below.refl _ _).alloc (Nat.le_refl _) _
  have HX := Lib.hid (hX.next b0)
  have HY := Lib.hid (hY.next b0)
  have HR := Lib.hid (hR.next b0)
  have HV := Lib.hid (hV.next b0)
  have HX0 := Lib.hid hX
  have HY0 := Lib.hid hY
  have K0 := Lib.hid k0
  have B0 := Lib.hid b0
  have HW := Lib.hid hW
  have HLR := Lib.hid hlr
  have HVL := Lib.hid hVL
  have HH := Lib.hid (show wrap64 (n - 1) = hiOf n from rfl)
  have hs0 := k0.lt
  obtain ⟨c0, c1, c2, c3⟩ := blk4 k0
  obtain ⟨Ar, cr, rfl, _⟩ := hR
  rw [hnr] at hlr HR ⊢
  clear hX hY hV k0 b0 hW hnr hVL
  go_enter Try.func20, Try.ntmps20
  go_wp2_with (fail)
  rw [HW.out]
  go_wp2_with (first
      | (go_at_call 49; (with_reducible refine (srawSys_any n o N A B C la ca lb cb lv cv X Y RR VV _ W HX.out HY.out HR.out HV.out hla hlb hca hcb HLR.out hlv).mono ?_); rintro e1 w1 ⟨v1, rfl, ho1, hb1⟩; have O1 := Lib.hid ho1; have B1 := Lib.hid (below_step B0.out hb1); clear hb1 ho1)
      | (go_at_call 50; (with_reducible refine (l13OwnLL_any v1 (sysL n o X Y N RR VV) _ O1.out.readr (by have := S1.out; omega) (fun i Z hZ => (S2.out i Z hZ).1)).mono ?_); rintro e2 w2 ⟨v2, rfl, ho2, hb2⟩; have O2 := Lib.hid ho2; have B2 := Lib.hid (below_step B1.out hb2); clear hb2 ho2)
      | fail)
  go_ret2
  exact ⟨_, rfl, O2.out.readr, B2.out⟩

def syMk (i : Nat) : Bool := i == 4 || i == 5
structure SyPhi (D m k : Nat) (L : List Nat) (i : Nat) (v : Value) (w : World) : Prop where
  p4 : i = 4 → w.ownsRow D 98 4 v L.length (solV m k L)
  p5 : i = 5 → LLq D w v (L.map fun j => lstF (vecF m k j) k)
structure SySh (nl i : Nat) (v : Value) : Prop where
  p : (i = 4 ∨ i = 5) → ∃ A c, v = .slice A nl c
theorem SyPhi_stable {D m k : Nat} {L : List Nat} (i : Nat) (v : Value) (w w' : World) (h : SyPhi D m k L i v w) (hb : Below w.heap.size w w') : SyPhi D m k L i v w' := ⟨fun e => own_nextK (h.p4 e) hb, fun e => (h.p5 e).next hb⟩
theorem SySh_of {D m k : Nat} {L : List Nat} (i : Nat) (v : Value) (w : World) (h : SyPhi D m k L i v w) : SySh L.length i v := ⟨fun e => by
  rcases e with e | e
  · obtain ⟨A, c, h1, _⟩ := solV_read (h.p4 e)
    exact ⟨A, c, h1⟩
  · obtain ⟨xs, h1, _⟩ := h.p5 e
    rw [List.length_map] at h1
    rcases h1.2 with ⟨e1, e2⟩ | ⟨g, cap, cur, e1, _⟩
    · exact ⟨none, 0, by rw [e1, e2]⟩
    · exact ⟨_, _, e1⟩⟩
def sy0 (nl : Nat) (_ : Nat) : Value := .slice none nl 0
theorem SySh_zero {nl : Nat} (i : Nat) : SySh nl i (sy0 nl i) := ⟨fun _ => ⟨none, 0, rfl⟩⟩

set_option maxHeartbeats 16000000 in
theorem sys_any (n o N : Int) (A B C : Option Addr) (la ca lb cb lv cv : Nat) (X Y : List Int) (RR : List (List Int)) (VV : List Int) (v : Value) (w : World) (hX : Ints w w.heap.size A la X) (hY : Ints w w.heap.size B lb Y) (hR : Rws w w.heap.size v RR) (hV : Ints w w.heap.size C lv VV) (hla : la ≤ 9223372036854775807) (hlb : lb ≤ 9223372036854775807) (hca : la ≤ ca) (hcb : lb ≤ cb) (hlr : RR.length ≤ 9223372036854775807) (hlv : lv ≤ 9223372036854775807) :
    Calls Try.prog 22 #[.agg #[.int .i64 n, .int .i64 o, .slice A la ca, .slice B lb cb], .int .i64 N, v, .slice C lv cv] w fun e' w' => ∃ v', e' = .returned (.tuple #[v', .bool (sysB n o X Y N RR VV)]) ∧ LLF w.heap.size w' v' (sysL n o X Y N RR VV) ∧ Below w.heap.size w w' := by
  obtain ⟨s1, s2⟩ := sys_shape (n := n) (o := o) (X := X) (Y := Y) (N := N) (RR := RR) (VV := VV)
  have S1 := Lib.hid s1
  have S3 := Lib.hid (sys_off (n := n) (o := o) (X := X) (Y := Y) (N := N) (RR := RR) (VV := VV))
  clear s1 s2
  have hVL := hV.1
  obtain ⟨nr, hnr⟩ : ∃ x, RR.length = x := ⟨_, rfl⟩
  have HNR := Lib.hid hnr
  obtain ⟨W, hW⟩ : ∃ W, w.alloc (.cells #[.int .i64 n, .int .i64 o, .slice A la ca, .slice B lb cb] 27) = W := ⟨_, rfl⟩
  have k0 : Blk W w.heap.size 27 #[.int .i64 n, .int .i64 o, .slice A la ca, .slice B lb cb] := by subst hW; exact Blk.new w _ _
  have b0 : Below w.heap.size w W := by subst hW; exact (Below.refl _ _).alloc (Nat.le_refl _) _
  have HX := Lib.hid (hX.next b0)
  have HY := Lib.hid (hY.next b0)
  have HR := Lib.hid (hR.next b0)
  have HV := Lib.hid (hV.next b0)
  have HX0 := Lib.hid hX
  have HY0 := Lib.hid hY
  have K0 := Lib.hid k0
  have B0 := Lib.hid b0
  have HW := Lib.hid hW
  have HLR := Lib.hid hlr
  have HVL := Lib.hid hVL
  have HH := Lib.hid (show wrap64 (n - 1) = hiOf n from rfl)
  have hs0 := k0.lt
  obtain ⟨c0, c1, c2, c3⟩ := blk4 k0
  obtain ⟨Ar, cr, rfl, _⟩ := hR
  rw [hnr] at hlr HR ⊢
  clear hX hY hV k0 b0 hW hnr hVL
  cases hs : spcB n o X Y N RR
  · have hz := Lib.hid (sys_s (VV := VV) hs)
    go_enter Try.func22, Try.ntmps22
    go_wp2_with (fail)
    rw [HW.out]
    go_wp2_with (fail)
    with_reducible refine (spw_no (X := X) (Y := Y) (RR := RR) HX.out HY.out HR.out hla hlb hca hcb HLR.out hs).mono ?_
    rintro e1 w1 ⟨rfl, hb1⟩
    have B1 := Lib.hid (below_step B0.out hb1)
    have K1 := Lib.hid (K0.out.next hb1)
    have V1 := Lib.hid (HV.out.next hb1)
    have R1 := Lib.hid (HR.out.next hb1)
    have G1 := Lib.hid hb1
    clear hb1 c0 c1 c2 c3
    go_upto_region 2 with (fail)
    obtain ⟨U, hU⟩ : ∃ U, w1.alloc (.cells (spZ) 59) = U := ⟨_, rfl⟩
    have u0 : Blk U w1.heap.size 59 (spZ) := by subst hU; exact Blk.new w1 _ _
    have bu : Below w1.heap.size w1 U := by subst hU; exact (Below.refl _ _).alloc (Nat.le_refl _) _
    rw [hU]
    have B2 := Lib.hid (below_step B1.out bu)
    have K2 := Lib.hid (K1.out.next bu)
    have V2 := Lib.hid (V1.out.next bu)
    have R2 := Lib.hid (R1.out.next bu)
    have GU := Lib.hid (below_step G1.out bu)
    have U0 := Lib.hid u0
    obtain ⟨c0, c1, c2, c3⟩ := blk4 K2.out
    obtain ⟨d0, d1, d2, d3, d4⟩ := cblk5 u0
    clear hU bu u0
    go_wp2
    go_ret2
    exact ⟨_, by rw [hz.out]; rfl, by rw [sysL_no hz.out]; exact LLq.nil.form (by simp) (by simp [offN]), B2.out⟩
  by_cases hll : lv = nr
  rotate_left
  · have hz := Lib.hid (sys_l (n := n) (o := o) (X := X) (Y := Y) (N := N) (RR := RR) (VV := VV) (by rw [HVL.out, HNR.out]; exact hll))
    have t1 : ((lv : Int) != (nr : Int)) = true := by rw [bne_iff_ne]; omega
    have t2 : ((lv : Int) == (nr : Int)) = false := by rw [beq_eq_false_iff_ne]; omega
    go_enter Try.func22, Try.ntmps22
    go_wp2_with (fail)
    rw [HW.out]
    go_wp2_with (fail)
    with_reducible refine (spw_yes (X := X) (Y := Y) (RR := RR) HX.out HY.out HR.out hla hlb hca hcb HLR.out hs).mono ?_
    rintro e1 w1 ⟨rfl, hb1⟩
    have B1 := Lib.hid (below_step B0.out hb1)
    have K1 := Lib.hid (K0.out.next hb1)
    have V1 := Lib.hid (HV.out.next hb1)
    have R1 := Lib.hid (HR.out.next hb1)
    have G1 := Lib.hid hb1
    clear hb1 c0 c1 c2 c3
    go_upto_region 2 with (fail)
    obtain ⟨U, hU⟩ : ∃ U, w1.alloc (.cells (spV n o A B la ca lb cb N) 59) = U := ⟨_, rfl⟩
    have u0 : Blk U w1.heap.size 59 (spV n o A B la ca lb cb N) := by subst hU; exact Blk.new w1 _ _
    have bu : Below w1.heap.size w1 U := by subst hU; exact (Below.refl _ _).alloc (Nat.le_refl _) _
    rw [hU]
    have B2 := Lib.hid (below_step B1.out bu)
    have K2 := Lib.hid (K1.out.next bu)
    have V2 := Lib.hid (V1.out.next bu)
    have R2 := Lib.hid (R1.out.next bu)
    have GU := Lib.hid (below_step G1.out bu)
    have U0 := Lib.hid u0
    obtain ⟨c0, c1, c2, c3⟩ := blk4 K2.out
    obtain ⟨d0, d1, d2, d3, d4⟩ := cblk5 u0
    clear hU bu u0
    go_wp2
    go_ret2
    exact ⟨_, by rw [hz.out]; rfl, by rw [sysL_no hz.out]; exact LLq.nil.form (by simp) (by simp [offN]), B2.out⟩
  subst hll
  have t1 : ((lv : Int) != (lv : Int)) = false := by simp
  have hvd := (spc_data hs).1
  cases ha : allB n VV
  · have hz := Lib.hid (sys_a (o := o) (X := X) (Y := Y) (N := N) (RR := RR) ha)
    go_enter Try.func22, Try.ntmps22
    go_wp2_with (fail)
    rw [HW.out]
    go_wp2_with (fail)
    with_reducible refine (spw_yes (X := X) (Y := Y) (RR := RR) HX.out HY.out HR.out hla hlb hca hcb HLR.out hs).mono ?_
    rintro e1 w1 ⟨rfl, hb1⟩
    have B1 := Lib.hid (below_step B0.out hb1)
    have K1 := Lib.hid (K0.out.next hb1)
    have V1 := Lib.hid (HV.out.next hb1)
    have R1 := Lib.hid (HR.out.next hb1)
    have G1 := Lib.hid hb1
    clear hb1 c0 c1 c2 c3
    go_upto_region 2 with (fail)
    obtain ⟨U, hU⟩ : ∃ U, w1.alloc (.cells (spV n o A B la ca lb cb N) 59) = U := ⟨_, rfl⟩
    have u0 : Blk U w1.heap.size 59 (spV n o A B la ca lb cb N) := by subst hU; exact Blk.new w1 _ _
    have bu : Below w1.heap.size w1 U := by subst hU; exact (Below.refl _ _).alloc (Nat.le_refl _) _
    rw [hU]
    have B2 := Lib.hid (below_step B1.out bu)
    have K2 := Lib.hid (K1.out.next bu)
    have V2 := Lib.hid (V1.out.next bu)
    have R2 := Lib.hid (R1.out.next bu)
    have GU := Lib.hid (below_step G1.out bu)
    have U0 := Lib.hid u0
    obtain ⟨c0, c1, c2, c3⟩ := blk4 K2.out
    obtain ⟨d0, d1, d2, d3, d4⟩ := cblk5 u0
    clear hU bu u0
    go_wp2_with (go_at_call 47; (with_reducible refine (hasAll_any _ _ _ _ C _ _ _ _ _ _ VV _ V2.out hlv).mono ?_); rintro e3 w3 ⟨rfl, hb3⟩; rw [ha]; have B3 := Lib.hid (below_step B2.out hb3); have V3 := Lib.hid (V2.out.next hb3); have R3 := Lib.hid (R2.out.next hb3); have U3 := Lib.hid (U0.out.next hb3); have G3 := Lib.hid (below_step GU.out hb3); clear hb3)
    go_ret2
    exact ⟨_, by rw [hz.out]; rfl, by rw [sysL_no hz.out]; exact LLq.nil.form (by simp) (by simp [offN]), B3.out⟩
  have hz := Lib.hid (sys_yes hs (by rw [HVL.out, HNR.out]) ha)
  obtain ⟨k, rfl⟩ := Int.eq_ofNat_of_zero_le (show 0 ≤ N by have := (spc_data hs).2.1.1; omega)
  obtain ⟨m, e, b1, o1, b2, o2, rfl, rfl, rfl, rfl, hr, _, _, _, _, _⟩ := valid_data hvd HX0.out HY0.out hca hcb
  have HRG := Lib.hid (hr.next B0.out)
  obtain ⟨_, _, hk, hq, hr3, hro⟩ := spc_rows hs
  have HRO := Lib.hid hro
  have hr3' : lv ≤ 300 := by rw [HNR.out] at hr3; exact hr3
  clear hr hro hvd hr3
  go_enter Try.func22, Try.ntmps22
  go_wp2_with (fail)
  rw [HW.out]
  go_wp2_with (fail)
  with_reducible refine (spw_yes (X := X) (Y := Y) (RR := RR) HX.out HY.out HR.out hla hlb hca hcb HLR.out hs).mono ?_
  rintro e1 w1 ⟨rfl, hb1⟩
  have B1 := Lib.hid (below_step B0.out hb1)
  have K1 := Lib.hid (K0.out.next hb1)
  have V1 := Lib.hid (HV.out.next hb1)
  have R1 := Lib.hid (HR.out.next hb1)
  have G1 := Lib.hid hb1
  clear hb1 c0 c1 c2 c3
  go_upto_region 2 with (fail)
  obtain ⟨U, hU⟩ : ∃ U, w1.alloc (.cells (spV m e (some ⟨b1, o1, none⟩) (some ⟨b2, o2, none⟩) la ca lb cb k) 59) = U := ⟨_, rfl⟩
  have u0 : Blk U w1.heap.size 59 (spV m e (some ⟨b1, o1, none⟩) (some ⟨b2, o2, none⟩) la ca lb cb k) := by subst hU; exact Blk.new w1 _ _
  have bu : Below w1.heap.size w1 U := by subst hU; exact (Below.refl _ _).alloc (Nat.le_refl _) _
  rw [hU]
  have B2 := Lib.hid (below_step B1.out bu)
  have K2 := Lib.hid (K1.out.next bu)
  have V2 := Lib.hid (V1.out.next bu)
  have R2 := Lib.hid (R1.out.next bu)
  have GU := Lib.hid (below_step G1.out bu)
  have U0 := Lib.hid u0
  obtain ⟨c0, c1, c2, c3⟩ := blk4 K2.out
  obtain ⟨d0, d1, d2, d3, d4⟩ := cblk5 u0
  clear hU bu u0
  go_wp2_with (go_at_call 47; (with_reducible refine (hasAll_any _ _ _ _ C _ _ _ _ _ _ VV _ V2.out hlv).mono ?_); rintro e3 w3 ⟨rfl, hb3⟩; rw [ha]; have B3 := Lib.hid (below_step B2.out hb3); have V3 := Lib.hid (V2.out.next hb3); have R3 := Lib.hid (R2.out.next hb3); have U3 := Lib.hid (U0.out.next hb3); have G3 := Lib.hid (below_step GU.out hb3); clear hb3 c0 c1 c2 c3 d0 d1 d2 d3 d4; obtain ⟨d0, d1, d2, d3, d4⟩ := cblk5 U3.out)
  obtain ⟨L, hL⟩ : ∃ L, solN m (tabOf X) (tabOf Y) k RR VV (m ^ k) = L := ⟨_, rfl⟩
  have HL := Lib.hid hL
  have HL3 := Lib.hid (show L.length ≤ 300 by rw [← hL]; exact Nat.le_trans solN_len hq)
  have SOL := Lib.hid (show ∀ x : World, Below w3.heap.size w3 x → Calls Try.prog 52 #[.agg (spV m e (some ⟨b1, o1, none⟩) (some ⟨b2, o2, none⟩) la ca lb cb k), .slice Ar lv cr, .slice C lv cv] x fun e' w' => ∃ v', e' = .returned v' ∧ w'.ownsRow x.heap.size 98 4 v' L.length (solV m k L) ∧ Below x.heap.size x w' from fun x hx => by
    have := solutions_any k C lv cv RR VV (.slice Ar lv cr) m e b1 o1 la ca b2 o2 lb cb (tabOf X) (tabOf Y) x (HRG.out.next (below_step G3.out hx)) hk (R3.out.next hx) (V3.out.next hx) HNR.out hr3' hq HRO.out
    rwa [hL] at this)
  clear hL
  refine wp_region_makersE 6 syMk (SyPhi w3.heap.size m k L) (SySh L.length) (sy0 L.length) probe (by kernel_rfl) (by kernel_rfl) SyPhi_stable (fun i v x _ => SySh_of i v x) (fun i _ => SySh_zero i) ?_
  intro V hVb vs hvs
  obtain ⟨A4, q4, e4⟩ := (hvs 4 rfl).p (.inl rfl)
  obtain ⟨A5, q5, e5⟩ := (hvs 5 rfl).p (.inr rfl)
  have cV : ∃ x, extC V x := ⟨V, extC_of (Below.refl _ _)⟩
  have KX := Lib.hid (show ∀ x, extC V x → Below w3.heap.size w3 x from fun x ⟨u, hu⟩ => by rw [hu]; exact below_step hVb (ext_below V u))
  have GQ := (U3.out.next hVb).inCP
  clear hVb d0 d1 d2 d3 d4
  simp only [List.take_succ_cons, List.take_zero, List.drop_succ_cons, List.drop_zero]
  refine wpV_quietE cV 4 0 _ _ (by decide) (by decide) ?_
  simp only [List.take_succ_cons, List.take_zero, List.drop_succ_cons, List.drop_zero]
  repeat (first
    | (refine wpQuiet_load_rowP rfl 59 (.tmp 10) rfl w1.heap.size rfl _ (spV m e (some ⟨b1, o1, none⟩) (some ⟨b2, o2, none⟩) la ca lb cb k) _ GQ Try.underlying59 rfl (by kernel_rfl) ?_; go_simp)
    | (go_big_quiet_step (fail)))
  refine wpQuiet_nil ?_
  refine wpV_make_E rfl rfl (fun x hx _ => ?_) ?_
  · unfold makesAtE
    go_simp
    refine ⟨rfl, (SOL.out x (KX.out x hx)).mono ?_⟩
    rintro _ x' ⟨v, rfl, ho, hb⟩
    exact ⟨_, rfl, hb, ⟨fun _ => own_base ho (KX.out x hx).size, fun e => absurd e (by decide)⟩, fun b hbb => by cases hbb⟩
  rw [e4]
  go_simp
  refine wpV_make_E rfl rfl (fun x hx hd => ?_) ?_
  · have h4 := (hd { on := 4, ground := .data } (by simp) rfl rfl).p4 rfl
    rw [e4] at h4
    unfold makesAtE
    go_simp
    refine ⟨rfl, (lists_any m k e (some ⟨b1, o1, none⟩) (some ⟨b2, o2, none⟩) la ca lb cb L (.slice A4 L.length q4) _ x hk h4 HL3.out).mono ?_⟩
    rintro _ x' ⟨v, rfl, ho, hb⟩
    exact ⟨_, rfl, hb, ⟨fun e => absurd e (by decide), fun _ => ho.down (KX.out x hx).size⟩, fun b hbb => by cases hbb⟩
  rw [e5]
  go_simp
  refine wpV_nilE ?_
  intro w7 hb7 hf _
  have h5 := (hf 5 (by decide) rfl).p5 rfl
  rw [e5] at h5
  have O6 := Lib.hid h5
  have B6 := Lib.hid (below_step B3.out hb7)
  have hs5 := B3.out.size
  clear hb7 hf h5 hvs
  go_wp2
  go_ret2
  refine ⟨_, by rw [hz.out]; rfl, ?_, B6.out⟩
  have h1 := S1.out
  have h3 := S3.out
  rw [sysL_yes hz.out] at h1 h3 ⊢
  unfold solL at h1 h3 ⊢
  rw [HL.out] at h1 h3 ⊢
  exact (O6.out.down hs5).form (by omega) h3

end Go.Proofs.Ytahdkdpliphcnaa



/- Codes: DualOf of both sides. -/
namespace Go.Proofs.Ytahdkdpliphcnaa
open Go.RowKit Go.Shelf
set_option maxRecDepth 100000

/-- So many zeros. -/
def zrs (k : Nat) : List Int := lstF (fun _ => 0) k
theorem zrs_len {k : Nat} : (zrs k).length = k := lstF_len
theorem zrs_get {k i : Nat} (h : i < k) : (zrs k)[i]? = some 0 := lstF_get h
theorem dual_sys {n o N : Int} {X Y : List Int} {RR : List (List Int)} : sysB n o X Y N RR (zrs RR.length) = spcB n o X Y N RR := by
  cases h : spcB n o X Y N RR
  · exact sys_s h
  · refine sys_yes h zrs_len (decide_eq_true fun k hk => ?_)
    obtain ⟨m, rfl, h1, _⟩ := pol_valid_size (spc_data h).1
    rw [zrs_len] at hk
    rw [zrs_get hk]
    exact inB_true (by simp; omega)
theorem zrs_cells {w : World} {g nr D : Nat} (h : Blk w g 3 (madeCells #[.int .i64 0] nr)) (hg : g < D) : Ints w D (some ⟨g, 0, none⟩) nr (zrs nr) :=
  ⟨zrs_len, fun _ => ⟨g, 0, rfl, hg, fun k y hk => by
    have hkn : k < nr := by have := (List.getElem?_eq_some_iff.1 hk).1; rwa [zrs_len] at this
    rw [zrs_get hkn] at hk
    cases hk
    have e : (madeCells #[.int .i64 0] nr).toList = (lstF (fun _ => 0) nr).map (Value.int .i64) := by
      have := lstV_made (n := nr)
      rw [Nat.mul_one] at this
      exact this
    rw [Nat.zero_add, h.cell, ← Array.getElem?_toList, e, List.getElem?_map, lstF_get hkn]
    rfl⟩⟩
theorem makesE_row {o : Oper} {a : Act} (l c : Operand) (L C : Nat) (kl kc : IntKind) (hop : o.op = .makeSlice 22 l c) (hl : a.eval l = .int kl (L : Int)) (hc : a.eval c = .int kc (C : Int)) (h1 : L ≤ C) (h2 : C ≤ 1048576) (w : World) :
    makesAtE Try.prog o a w fun v w' => ∃ g, v = .slice (some ⟨g, 0, none⟩) L C ∧ w.heap.size ≤ g ∧ Blk w' g 3 (madeCells #[.int .i64 0] C) := by
  obtain ⟨i0, hi, hz0, hz1, hz2⟩ := info_parts int_info
  have hr := run_make (P := Try.prog) w 22 3 i0 (.int .i64 0) Try.underlying22 hi hz0 kl kc L C (by omega) (by omega) (by rw [hz2]; omega) (by omega)
  simp only [Int.toNat_natCast, hz1, Nat.mul_one] at hr
  unfold makesAtE
  simp only [execOp, hop, hl, hc, Sem.run_bind, hr, Result.andThen_ok, Sem.run_pure, makesUponE]
  exact ⟨(Below.refl _ _).alloc (Nat.le_refl _) _, ⟨w.heap.size, rfl, Nat.le_refl _, Blk.new w _ _⟩, fun b hb => by cases hb⟩
theorem makesAtE_mono {P : Program} {o : Oper} {a : Act} {w : World} {F F' : Value → World → Prop} (h : makesAtE P o a w F) (hF : ∀ v w', F v w' → F' v w') : makesAtE P o a w F' := by
  unfold makesAtE at *
  generalize (execOp a.eval o).run P w = r at *
  cases r with
  | ok n w' =>
    cases n <;> simp only [makesUponE] at h ⊢
    case value u => exact ⟨h.1, hF _ _ h.2.1, h.2.2⟩
    case enter f args => exact ⟨h.1, h.2.mono fun e w'' ⟨u, h1, h2, h3, h4⟩ => ⟨u, h1, h2, hF _ _ h3, h4⟩⟩
  | halt x w' => simp only [makesUponE] at h
theorem LLF.next_ {D : Nat} {w w' : World} {v : Value} {ZZ : List (List Int)} (h : LLF D w v ZZ) (hb : Below w.heap.size w w') : LLF D w' v ZZ := by
  obtain ⟨A, cap, Bs, cs, e, h1, h2, h3, h4⟩ := h
  exact ⟨A, cap, Bs, cs, e, h1.next hb, h2, h3, h4⟩
theorem LLF.down_ {D D' : Nat} {w : World} {v : Value} {ZZ : List (List Int)} (h : LLF D w v ZZ) (hD : D' ≤ D) : LLF D' w v ZZ := by
  obtain ⟨A, cap, Bs, cs, e, h1, h2, h3, h4⟩ := h
  exact ⟨A, cap, Bs, cs, e, fun i hi => by obtain ⟨g, a1, a2, a3, a4, a5, a6, a7, a8⟩ := h1 i hi; exact ⟨g, a1, by omega, a3, a4, a5, a6, a7.down hD, a8⟩, h2, h3, h4⟩

def duMk (i : Nat) : Bool := i == 5 || i == 6
structure DuPhi (D nr : Nat) (F : Value → World → Prop) (i : Nat) (v : Value) (w : World) : Prop where
  p5 : i = 5 → ∃ g, v = .slice (some ⟨g, 0, none⟩) nr nr ∧ D ≤ g ∧ Blk w g 3 (madeCells #[.int .i64 0] nr)
  p6 : i = 6 → F v w
structure DuSh (nr : Nat) (G : Value → Prop) (i : Nat) (v : Value) : Prop where
  p5 : i = 5 → ∃ g, v = .slice (some ⟨g, 0, none⟩) nr nr
  p6 : i = 6 → G v
section
variable {D nr : Nat} {F : Value → World → Prop} {G : Value → Prop}
theorem DuPhi_stable (hF : ∀ v w w', F v w → Below w.heap.size w w' → F v w') (i : Nat) (v : Value) (w w' : World) (h : DuPhi D nr F i v w) (hb : Below w.heap.size w w') : DuPhi D nr F i v w' := ⟨fun e => by
  obtain ⟨g, h1, h2, h3⟩ := h.p5 e
  exact ⟨g, h1, h2, h3.next hb⟩, fun e => hF _ _ _ (h.p6 e) hb⟩
theorem DuSh_of (hG : ∀ v w, F v w → G v) (i : Nat) (v : Value) (w : World) (h : DuPhi D nr F i v w) : DuSh nr G i v := ⟨fun e => by
  obtain ⟨g, h1, _⟩ := h.p5 e
  exact ⟨g, h1⟩, fun e => hG _ _ (h.p6 e)⟩
def du0 (nr : Nat) (u : Value) (i : Nat) : Value := if i = 5 then .slice (some ⟨0, 0, none⟩) nr nr else u
theorem DuSh_zero {u : Value} (hu : G u) (i : Nat) : DuSh nr G i (du0 nr u i) := ⟨fun e => by subst e; exact ⟨0, rfl⟩, fun e => by subst e; exact hu⟩
end

set_option maxHeartbeats 8000000 in
theorem dual_any (n o N : Int) (A B : Option Addr) (la ca lb cb : Nat) (X Y : List Int) (RR : List (List Int)) (v : Value) (w : World) (hX : Ints w w.heap.size A la X) (hY : Ints w w.heap.size B lb Y) (hR : Rws w w.heap.size v RR) (hla : la ≤ 9223372036854775807) (hlb : lb ≤ 9223372036854775807) (hca : la ≤ ca) (hcb : lb ≤ cb) (hlr : RR.length ≤ 1048576) :
    Calls Try.prog 29 #[.agg #[.int .i64 n, .int .i64 o, .slice A la ca, .slice B lb cb], .int .i64 N, v] w fun e' w' => ∃ v', e' = .returned (.tuple #[v', .bool (spcB n o X Y N RR)]) ∧ LLF w.heap.size w' v' (sysL n o X Y N RR (zrs RR.length)) ∧ Below w.heap.size w w' := by
  have HLM := Lib.hid hlr
  obtain ⟨ZZ, hZZ⟩ : ∃ ZZ, sysL n o X Y N RR (zrs RR.length) = ZZ := ⟨_, rfl⟩
  have SYS := Lib.hid (fun C v w hX hY hR hV => sys_any n o N A B C la ca lb cb RR.length RR.length X Y RR (zrs RR.length) v w hX hY hR hV hla hlb hca hcb (by omega) (by omega))
  rw [hZZ] at SYS ⊢
  rw [dual_sys] at SYS
  clear hZZ
  obtain ⟨ok, hok⟩ : ∃ ok, spcB n o X Y N RR = ok := ⟨_, rfl⟩
  rw [hok] at SYS ⊢
  clear hok
  obtain ⟨nr, hnr⟩ : ∃ x, RR.length = x := ⟨_, rfl⟩
  have HNR := Lib.hid hnr
  obtain ⟨W, hW⟩ : ∃ W, w.alloc (.cells #[.int .i64 n, .int .i64 o, .slice A la ca, .slice B lb cb] 27) = W := ⟨_, rfl⟩
  have k0 : Blk W w.heap.size 27 #[.int .i64 n, .int .i64 o, .slice A la ca, .slice B lb cb] := by subst hW; exact Blk.new w _ _
  have b0 : Below w.heap.size w W := by subst hW; exact (Below.refl _ _).alloc (Nat.le_refl _) _
  have HX := Lib.hid (hX.next b0)
  have HY := Lib.hid (hY.next b0)
  have HR := Lib.hid (hR.next b0)
  have HX0 := Lib.hid hX
  have HY0 := Lib.hid hY
  have K0 := Lib.hid k0
  have B0 := Lib.hid b0
  have HW := Lib.hid hW
  have HLR := Lib.hid (show RR.length ≤ 9223372036854775807 by omega)
  have hs0 := k0.lt
  obtain ⟨c0, c1, c2, c3⟩ := blk4 k0
  obtain ⟨Ar, cr, rfl, _⟩ := hR
  rw [hnr] at hlr HR
  show Calls _ _ #[_, _, .slice Ar RR.length cr] _ _
  simp only [hnr]
  clear hX hY k0 b0 hW hnr
  rw [HNR.out] at SYS
  go_enter Try.func29, Try.ntmps29
  go_wp2_with (fail)
  rw [HW.out]
  go_wp2_with (fail)
  refine wp_region_makersE 9 duMk (DuPhi W.heap.size nr (fun v w => ∃ u, v = .tuple #[u, .bool ok] ∧ LLF W.heap.size w u ZZ)) (DuSh nr (fun v => ∃ A c, v = .tuple #[.slice A ZZ.length c, .bool ok])) (du0 nr (.tuple #[.slice none ZZ.length 0, .bool ok])) probe (by kernel_rfl) (by kernel_rfl) (DuPhi_stable fun v x x' h hb => by obtain ⟨u, h1, h2⟩ := h; exact ⟨u, h1, h2.next_ hb⟩) (fun i v x _ => DuSh_of (fun v x h => by obtain ⟨u, h1, A, cap, Bs, cs, h2, _⟩ := h; exact ⟨A, cap, by rw [h1, h2]⟩) i v x) (fun i _ => DuSh_zero ⟨_, _, rfl⟩ i) ?_
  intro V hVb vs hvs
  obtain ⟨g5, e5⟩ := (hvs 5 rfl).p5 rfl
  obtain ⟨A6, q6, e6⟩ := (hvs 6 rfl).p6 rfl
  have cV : ∃ x, extC V x := ⟨V, extC_of (Below.refl _ _)⟩
  have KX := Lib.hid (show ∀ x, extC V x → Below W.heap.size W x from fun x ⟨u, hu⟩ => by rw [hu]; exact below_step hVb (ext_below V u))
  have GQ := (K0.out.next hVb).inCP
  clear hVb c0 c1 c2 c3
  simp only [List.take_succ_cons, List.take_zero, List.drop_succ_cons, List.drop_zero]
  refine wpV_quietE cV 5 0 _ _ (by decide) (by decide) ?_
  simp only [List.take_succ_cons, List.take_zero, List.drop_succ_cons, List.drop_zero]
  repeat (first
    | (refine wpQuiet_load_rowP rfl 27 (.tmp 3) rfl w.heap.size rfl _ #[.int .i64 n, .int .i64 o, .slice A la ca, .slice B lb cb] _ GQ Try.underlying27 rfl (by kernel_rfl) ?_; go_simp)
    | (go_big_quiet_step (fail)))
  refine wpQuiet_nil ?_
  refine wpV_make_E rfl rfl (fun x hx _ => ?_) ?_
  · refine makesAtE_mono (makesE_row (.tmp 12) (.tmp 12) nr nr .i64 .i64 rfl rfl rfl (Nat.le_refl _) hlr x) fun v x' ⟨g, h1, h2, h3⟩ => ⟨fun _ => ⟨g, h1, Nat.le_trans (KX.out x hx).size h2, h3⟩, fun e => absurd e (by decide)⟩
  rw [e5]
  go_simp
  refine wpV_make_E rfl rfl (fun x hx hd => ?_) ?_
  · obtain ⟨g', h4, _, h6⟩ := (hd { on := 5, ground := .data } (by simp) rfl rfl).p5 rfl
    rw [e5] at h4
    simp only [Value.slice.injEq, Option.some.injEq, Addr.mk.injEq, and_true] at h4
    subst h4
    have hx' := KX.out x hx
    unfold makesAtE
    go_simp
    refine ⟨rfl, (SYS.out (some ⟨g5, 0, none⟩) (.slice Ar nr cr) x (HX.out.next hx') (HY.out.next hx') (HR.out.next hx') (zrs_cells h6 h6.lt)).mono ?_⟩
    rintro _ x' ⟨v, rfl, ho, hb⟩
    exact ⟨_, rfl, hb, ⟨fun e => absurd e (by decide), fun _ => ⟨_, rfl, ho.down_ hx'.size⟩⟩, fun b hbb => by cases hbb⟩
  rw [e6]
  go_simp
  refine wpV_quietE cV 2 _ _ _ (by decide) (by decide) ?_
  simp only [List.take_succ_cons, List.take_zero, List.drop_succ_cons, List.drop_zero]
  repeat (go_big_quiet_step (fail))
  refine wpQuiet_nil ?_
  refine wpV_nilE ?_
  intro w7 hb7 hf _
  obtain ⟨u, h6, h7⟩ := (hf 6 (by decide) rfl).p6 rfl
  rw [e6] at h6
  simp only [Value.tuple.injEq, Array.mk.injEq, List.cons.injEq, and_true] at h6
  subst h6
  have O6 := Lib.hid h7
  have B6 := Lib.hid (below_step B0.out hb7)
  have hs5 := B0.out.size
  clear hb7 hf h7 hvs
  go_wp2
  go_ret2
  exact ⟨_, by rfl, O6.out.down_ hs5, B6.out⟩

end Go.Proofs.Ytahdkdpliphcnaa

