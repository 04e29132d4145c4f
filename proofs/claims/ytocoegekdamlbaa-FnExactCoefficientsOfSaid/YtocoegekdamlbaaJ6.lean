
/- CoefficientsOf of both sides. -/
import Derived.Test.YtocoegekdamlbaaJ5
namespace Go.Proofs.Ytocoegekdamlbaa
open Go.RowKit
set_option maxRecDepth 100000

noncomputable def coefB (n o : Int) (X Y Z : List Int) (a : Int) : Bool := towB n o X Y Z && inB ((n.toNat ^ Z.length : Nat) : Int) a
noncomputable def coefL (n o : Int) (X Y Z : List Int) (a : Int) : List Int := if coefB n o X Y Z a = true then digK a.toNat n.toNat Z.length else []
section
variable {n o a : Int} {X Y Z : List Int}
theorem coef_t (h : towB n o X Y Z = false) : coefB n o X Y Z a = false := by unfold coefB; rw [h]; rfl
theorem coef_i (h : inB ((n.toNat ^ Z.length : Nat) : Int) a = false) : coefB n o X Y Z a = false := by unfold coefB; rw [h]; simp
theorem coef_yes (h1 : towB n o X Y Z = true) (h2 : inB ((n.toNat ^ Z.length : Nat) : Int) a = true) : coefB n o X Y Z a = true := by unfold coefB; rw [h1, h2]; rfl
theorem coefL_no (h : coefB n o X Y Z a = false) : coefL n o X Y Z a = [] := if_neg (by rw [h]; simp)
theorem coefL_yes (h : coefB n o X Y Z a = true) : coefL n o X Y Z a = digK a.toNat n.toNat Z.length := if_pos h
end

theorem digK_ints {a m lf g : Nat} {w : World} (h : Blk w g 54 (digA a m lf)) (hf : lf ≤ 4) : Ints w w.heap.size (some ⟨g, 0, none⟩) lf (digK a m lf) :=
  ⟨digK_length, fun _ => ⟨g, 0, rfl, h.lt, fun k x hx => by
    have hk : k < lf := by
      rcases Nat.lt_or_ge k lf with h1 | h1
      · exact h1
      · rw [List.getElem?_eq_none (by rw [digK_length]; exact h1)] at hx; cases hx
    rw [Nat.zero_add, h.cell k, digA_get (by omega), if_pos hk]
    unfold digK at hx
    rw [List.getElem?_map, List.getElem?_range hk] at hx
    simp only [Option.map_some, Option.some.injEq] at hx
    rw [hx]⟩⟩

set_option maxHeartbeats 8000000 in
theorem coef_any (n o : Int) (A B F : Option Addr) (la ca lb cb lf cf : Nat) (X Y Z : List Int) (a : Int) (w : World) (hX : Ints w w.heap.size A la X) (hY : Ints w w.heap.size B lb Y) (hF : Ints w w.heap.size F lf Z) (hla : la ≤ 9223372036854775807) (hlb : lb ≤ 9223372036854775807) (hlf : lf ≤ 9223372036854775807) (hca : la ≤ ca) (hcb : lb ≤ cb) :
    Calls Try.prog 19 #[.agg #[.int .i64 n, .int .i64 o, .slice A la ca, .slice B lb cb], .slice F lf cf, .int .i64 a] w fun e' w' => ∃ v, e' = .returned (.tuple #[v, .bool (coefB n o X Y Z a)]) ∧ SliceOut w.heap.size w' v (coefL n o X Y Z a) ∧ Below w.heap.size w w' := by
  have hZ := hF.1
  obtain ⟨W, hW⟩ : ∃ W, (w.alloc (.cells #[.int .i64 n, .int .i64 o, .slice A la ca, .slice B lb cb] 28)).alloc (.cells (towV n o A B F la ca lb cb lf cf) 50) = W := ⟨_, rfl⟩
  have k1 : Blk W (w.heap.size + 1) 50 (towV n o A B F la ca lb cb lf cf) := by
    subst hW
    have := Blk.new (w.alloc (.cells #[.int .i64 n, .int .i64 o, .slice A la ca, .slice B lb cb] 28)) 50 (towV n o A B F la ca lb cb lf cf)
    rw [World.size_alloc] at this
    exact this
  have b0 : Below w.heap.size w W := by subst hW; exact ((Below.refl _ _).alloc (Nat.le_refl _) _).alloc (by simp) _
  have HX := Lib.hid (hX.next b0)
  have HY := Lib.hid (hY.next b0)
  have HF := Lib.hid (hF.next b0)
  have K1 := Lib.hid k1
  have B0 := Lib.hid b0
  have HW := Lib.hid hW
  have hs0 := k1.lt
  clear hX hY hF k1 b0 hW
  cases ht : towB n o X Y Z
  · have hz := Lib.hid (coef_t (a := a) ht)
    go_enter Try.func19, Try.ntmps19
    go_wp2_with (fail)
    rw [HW.out]
    refine (tvalid_any n o A B F la ca lb cb lf cf X Y Z W HX.out HY.out HF.out hla hlb hlf hca hcb).mono ?_
    rintro e1 w1 ⟨rfl, hb1⟩
    rw [ht]
    have B1 := Lib.hid (below_step B0.out hb1)
    clear hb1
    go_wp2
    go_ret2
    exact ⟨.slice none 0 0, by rw [hz.out]; rfl, by rw [coefL_no hz.out]; exact SliceOut.nil, B1.out⟩
  · obtain ⟨hv, h1, h4, hal, h16⟩ := towB_data ht
    obtain ⟨m, rfl, hm, hm'⟩ := valid_size hv
    have h16' : m ^ lf ≤ 16 := by rw [← hZ]; simpa using h16
    by_cases h0 : 0 ≤ a
    · obtain ⟨a, rfl⟩ := Int.eq_ofNat_of_zero_le h0
      by_cases hlt : a < m ^ lf
      · have hin : inB (((m : Int).toNat ^ Z.length : Nat) : Int) a = true := inB_true ⟨by omega, by rw [hZ, Int.toNat_natCast]; omega⟩
        have hz := Lib.hid (coef_yes ht hin)
        have hzl := Lib.hid (coefL_yes hz.out)
        obtain ⟨q, hq⟩ : ∃ q, m ^ lf = q := ⟨_, rfl⟩
        have tz : (a : Int) < (q : Int) := by omega
        have ha : a ≤ 1000000 := by omega
        have hl4 : lf ≤ 4 := by omega
        have hl1 : 1 ≤ lf := by omega
        have HT := Lib.hid ht
        have HQ := Lib.hid hq
        clear hin h0 hv h1 h4 hal h16 h16' hlt hq ht
        go_enter Try.func19, Try.ntmps19
        go_wp2_with (fail)
        rw [HW.out]
        refine (tvalid_any m o A B F la ca lb cb lf cf X Y Z W HX.out HY.out HF.out hla hlb hlf hca hcb).mono ?_
        rintro e1 w1 ⟨rfl, hb1⟩
        rw [HT.out]
        have K2 := Lib.hid (K1.out.next hb1)
        have B1 := Lib.hid (below_step B0.out hb1)
        obtain ⟨c0, c1, c2, c3, c4⟩ := blk5 K2.out
        clear hb1
        go_wp2_with (fail)
        refine (tsize_any m o A B F la ca lb cb lf cf w1 hm' hl4).mono ?_
        rintro e2 w2 ⟨rfl, hb2⟩
        rw [HQ.out]
        have K3 := Lib.hid (K2.out.next hb2)
        have B2 := Lib.hid (below_step B1.out hb2)
        clear hb2 c0 c1 c2 c3 c4
        obtain ⟨c0, c1, c2, c3, c4⟩ := blk5 K3.out
        go_wp2_with (fail)
        refine (element_any m a o A B F la ca lb cb lf cf w2 hm hm' hl4 ha).mono ?_
        rintro e3 w3 ⟨rfl, hb3⟩
        have B3 := Lib.hid (below_step B2.out hb3)
        clear hb3 c0 c1 c2 c3 c4
        obtain ⟨S, hS⟩ : ∃ S, digA a m lf = S := ⟨_, rfl⟩
        have hs1 : S.size = 4 := by rw [← hS, digA_size]
        have hs2 : S.all (·.oneCell') = true := by rw [← hS]; exact digA_one
        have hi : (Try.prog.info? 54).map (·.size) = some S.size := by rw [hs1]; kernel_rfl
        rw [hS]
        have HS := Lib.hid hS
        clear hS
        have tl : (lf : Int) ≤ 4 := by omega
        have tl0 : (0 : Int) ≤ (lf : Int) := by omega
        have hold : (digA a m 0).size = S.size := by rw [hs1, digA_size]
        go_wp2_with (first
          | (refine wpList_store_row rfl 54 (.tmp 9) (.tmp 28) rfl w3.heap.size S rfl rfl _ (digA a m 0) (by rw [digA_zero]; exact Blk.new w3 _ _) hi hold hs2 ?_))
        obtain ⟨V, hV⟩ : ∃ V, (w3.alloc (.cells #[.int .i64 0, .int .i64 0, .int .i64 0, .int .i64 0] 54)).setRow w3.heap.size S = V := ⟨_, rfl⟩
        have v0 : Blk V w3.heap.size 54 S := by
          subst hV
          exact setRow_heap _ _ _ S _ _ (Blk.new w3 _ _)
        have bV : Below w3.heap.size w3 V := by
          subst hV
          exact below_setRow ((Below.refl _ _).alloc (Nat.le_refl _) _) (Nat.le_refl _) S
        rw [hV]
        rw [← HS.out] at v0
        have IV := digK_ints v0 hl4
        have B4 := Lib.hid (below_step B3.out bV)
        clear hV v0 bV
        refine (clone_any w3.heap.size 0 lf 4 _ _ V IV hl1 (by omega)).mono ?_
        rintro e5 w5 ⟨v5, rfl, ho5, hb5⟩
        have B5 := Lib.hid (below_step B4.out hb5)
        have O5 := Lib.hid ho5
        have hsV := B4.out.size
        clear hb5 ho5
        go_wp2
        go_ret2
        refine ⟨v5, by rw [hz.out]; rfl, ?_, B5.out⟩
        rw [hzl.out]
        have := (SliceOut.of_row O5.out digK_length (by omega)).down hsV
        simpa [hZ] using this
      · have hin : inB (((m : Int).toNat ^ Z.length : Nat) : Int) a = false := inB_false (by rw [hZ, Int.toNat_natCast]; omega)
        have hz := Lib.hid (coef_i (o := o) (X := X) (Y := Y) (Z := Z) hin)
        obtain ⟨q, hq⟩ : ∃ q, m ^ lf = q := ⟨_, rfl⟩
        have tz : ¬ (a : Int) < (q : Int) := by omega
        have tz2 : (q : Int) ≤ (a : Int) := by omega
        have hl4 : lf ≤ 4 := by omega
        have HT := Lib.hid ht
        have HQ := Lib.hid hq
        clear hin h0 hv h1 h4 hal h16 h16' hlt hq ht
        go_enter Try.func19, Try.ntmps19
        go_wp2_with (fail)
        rw [HW.out]
        refine (tvalid_any m o A B F la ca lb cb lf cf X Y Z W HX.out HY.out HF.out hla hlb hlf hca hcb).mono ?_
        rintro e1 w1 ⟨rfl, hb1⟩
        rw [HT.out]
        have K2 := Lib.hid (K1.out.next hb1)
        have B1 := Lib.hid (below_step B0.out hb1)
        obtain ⟨c0, c1, c2, c3, c4⟩ := blk5 K2.out
        clear hb1
        go_wp2_with (fail)
        refine (tsize_any m o A B F la ca lb cb lf cf w1 hm' hl4).mono ?_
        rintro e2 w2 ⟨rfl, hb2⟩
        rw [HQ.out]
        have B2 := Lib.hid (below_step B1.out hb2)
        clear hb2
        go_wp2
        go_ret2
        exact ⟨.slice none 0 0, by rw [hz.out]; rfl, by rw [coefL_no hz.out]; exact SliceOut.nil, B2.out⟩
    · have hin : inB (((m : Int).toNat ^ Z.length : Nat) : Int) a = false := inB_false (by omega)
      have hz := Lib.hid (coef_i (o := o) (X := X) (Y := Y) (Z := Z) hin)
      have tz : a < 0 := by omega
      have HT := Lib.hid ht
      clear hin h0 hv h1 h4 hal h16 h16' ht
      go_enter Try.func19, Try.ntmps19
      go_wp2_with (fail)
      rw [HW.out]
      refine (tvalid_any m o A B F la ca lb cb lf cf X Y Z W HX.out HY.out HF.out hla hlb hlf hca hcb).mono ?_
      rintro e1 w1 ⟨rfl, hb1⟩
      rw [HT.out]
      have B1 := Lib.hid (below_step B0.out hb1)
      clear hb1
      go_wp2
      go_ret2
      exact ⟨.slice none 0 0, by rw [hz.out]; rfl, by rw [coefL_no hz.out]; exact SliceOut.nil, B1.out⟩

set_option maxHeartbeats 8000000 in
theorem scoef_any (n o : Int) (A B F : Option Addr) (la ca lb cb lf cf : Nat) (X Y Z : List Int) (a : Int) (w : World) (hX : Ints w w.heap.size A la X) (hY : Ints w w.heap.size B lb Y) (hF : Ints w w.heap.size F lf Z) (hla : la ≤ 9223372036854775807) (hlb : lb ≤ 9223372036854775807) (hlf : lf ≤ 9223372036854775807) (hca : la ≤ ca) (hcb : lb ≤ cb) :
    Calls Try.prog 16 #[.agg #[.int .i64 n, .int .i64 o, .slice A la ca, .slice B lb cb], .slice F lf cf, .int .i64 a] w fun e' w' => ∃ v, e' = .returned (.tuple #[v, .bool (coefB n o X Y Z a)]) ∧ SliceOut w.heap.size w' v (coefL n o X Y Z a) ∧ Below w.heap.size w w' := by
  have hZ := hF.1
  obtain ⟨W, hW⟩ : ∃ W, w.alloc (.cells #[.int .i64 n, .int .i64 o, .slice A la ca, .slice B lb cb] 28) = W := ⟨_, rfl⟩
  have k0 : Blk W w.heap.size 28 #[.int .i64 n, .int .i64 o, .slice A la ca, .slice B lb cb] := by subst hW; exact Blk.new w _ _
  have b0 : Below w.heap.size w W := by subst hW; exact (Below.refl _ _).alloc (Nat.le_refl _) _
  have HX := Lib.hid (hX.next b0)
  have HY := Lib.hid (hY.next b0)
  have HF := Lib.hid (hF.next b0)
  have K0 := Lib.hid k0
  have B0 := Lib.hid b0
  have HW := Lib.hid hW
  have hs0 := k0.lt
  obtain ⟨c0, c1, c2, c3⟩ := blk4 k0
  clear hX hY hF k0 b0 hW
  cases ht : towB n o X Y Z
  · have hz := Lib.hid (coef_t (a := a) ht)
    go_enter Try.func16, Try.ntmps16
    go_wp2_with (fail)
    rw [HW.out]
    refine (l2Tower_any n o A B F la ca lb cb lf cf X Y Z W HX.out HY.out HF.out hla hlb hlf hca hcb).mono ?_
    rintro e1 w1 ⟨rfl, hb1⟩
    rw [ht]
    have B1 := Lib.hid (below_step B0.out hb1)
    clear hb1
    go_wp2
    go_ret2
    exact ⟨_, by rw [hz.out]; rfl, by rw [coefL_no hz.out]; exact SliceOut.of_row (n := 0) (own_lit_K [] B1.out.size (by unfold maxLen; simp)) rfl (by omega), B1.out.alloc B1.out.size _⟩
  · obtain ⟨hv, h1, h4, hal, h16⟩ := towB_data ht
    obtain ⟨m, rfl, hm, hm'⟩ := valid_size hv
    have h16' : m ^ lf ≤ 16 := by rw [← hZ]; simpa using h16
    have hmin : min (m ^ lf) 17 = m ^ lf := Nat.min_eq_left (by omega)
    obtain ⟨q, hq⟩ : ∃ q, m ^ lf = q := ⟨_, rfl⟩
    have hq1 : 1 ≤ q := by rw [← hq]; exact pow_pos hm
    have hhq : hiOf (q : Int) = q - 1 := wrap_in (by omega) (by omega)
    have hl4 : lf ≤ 4 := by omega
    have HT := Lib.hid ht
    have HH := Lib.hid (show wrap64 ((q : Int) - 1) = hiOf q from rfl)
    cases hin : inB (q : Int) a
    · have hz := Lib.hid (coef_i (n := m) (o := o) (X := X) (Y := Y) (Z := Z) (a := a) (by rw [hZ, Int.toNat_natCast, hq]; exact hin))
      have he : elB (hiOf q) [a] = false := by rw [hhq, elB_one]; exact hin
      have HM := Lib.hid (hmin.trans hq)
      clear hin hv h1 h4 hal h16 h16' hmin hq ht hhq
      go_enter Try.func16, Try.ntmps16
      go_wp2_with (fail)
      rw [HW.out]
      refine (l2Tower_any m o A B F la ca lb cb lf cf X Y Z W HX.out HY.out HF.out hla hlb hlf hca hcb).mono ?_
      rintro e1 w1 ⟨rfl, hb1⟩
      rw [HT.out]
      have K1 := Lib.hid (K0.out.next hb1)
      have B1 := Lib.hid (below_step B0.out hb1)
      clear hb1 c0 c1 c2 c3
      obtain ⟨c0, c1, c2, c3⟩ := blk4 K1.out
      go_wp2_with (fail)
      refine (l2Size_any m o A B F la ca lb cb lf cf w1 hm hm' hlf).mono ?_
      rintro e2 w2 ⟨rfl, hb2⟩
      rw [HM.out]
      have B2 := Lib.hid (below_step B1.out hb2)
      clear hb2
      have HE := Lib.hid (ints_one (w := w2) (v := a) (T := 3))
      go_wp2_with (go_at_call 50; (with_reducible refine (l1Elements_any _ _ _ _ _ [a] _ _ HH.out HE.out (by omega)).mono ?_); rintro e3 w3 ⟨rfl, rfl⟩)
      go_ret2
      have hsz2 : w.heap.size ≤ (w2.alloc (.cells #[.int .i64 a] 3)).heap.size := by rw [World.size_alloc]; have := B2.out.size; omega
      have ho := SliceOut.of_row (n := 0) (Z := []) (own_lit_K (e := 3) ([] : List Value) hsz2 (by unfold maxLen; simp)) rfl (by omega)
      rw [World.size_alloc] at ho
      exact ⟨.slice (some ⟨w2.heap.size + 1, 0, none⟩) 0 0, by rw [hz.out]; rfl, by rw [coefL_no hz.out]; exact ho, (B2.out.alloc B2.out.size _).alloc (Nat.le_trans B2.out.size (by simp)) _⟩
    · have hin' := of_decide_eq_true hin
      obtain ⟨a, rfl⟩ := Int.eq_ofNat_of_zero_le hin'.1
      have hz := Lib.hid (coef_yes (a := a) ht (by rw [hZ, Int.toNat_natCast, hq]; exact hin))
      have hzl := Lib.hid (coefL_yes hz.out)
      have he : elB (hiOf q) [(a : Int)] = true := by rw [hhq, elB_one]; exact hin
      have HM := Lib.hid (hmin.trans hq)
      have ha : a ≤ 1000000 := by omega
      clear hin hv h1 h4 hal h16 h16' hmin hq ht hhq hin'
      go_enter Try.func16, Try.ntmps16
      go_wp2_with (fail)
      rw [HW.out]
      refine (l2Tower_any m o A B F la ca lb cb lf cf X Y Z W HX.out HY.out HF.out hla hlb hlf hca hcb).mono ?_
      rintro e1 w1 ⟨rfl, hb1⟩
      rw [HT.out]
      have K1 := Lib.hid (K0.out.next hb1)
      have B1 := Lib.hid (below_step B0.out hb1)
      clear hb1 c0 c1 c2 c3
      obtain ⟨c0, c1, c2, c3⟩ := blk4 K1.out
      go_wp2_with (fail)
      refine (l2Size_any m o A B F la ca lb cb lf cf w1 hm hm' hlf).mono ?_
      rintro e2 w2 ⟨rfl, hb2⟩
      rw [HM.out]
      have K2 := Lib.hid (K1.out.next hb2)
      have B2 := Lib.hid (below_step B1.out hb2)
      clear hb2 c0 c1 c2 c3
      obtain ⟨c0, c1, c2, c3⟩ := blk4 K2.out
      obtain ⟨d0, d1, d2, d3⟩ := blk4 (K2.out.alloc (.cells #[.int .i64 (a : Int)] 3))
      have HE := Lib.hid (ints_one (w := w2) (v := (a : Int)) (T := 3))
      go_wp2_with (first
        | (go_at_call 50; (with_reducible refine (l1Elements_any _ _ _ _ _ [(a : Int)] _ _ HH.out HE.out (by omega)).mono ?_); rintro e3 w3 ⟨rfl, rfl⟩)
        | (go_at_call 52; (with_reducible refine (digits_any a m lf _ hm hm' ha (by omega)).mono ?_); rintro e4 w4 ⟨v4, rfl, ho4, hb4⟩))
      go_ret2
      refine ⟨v4, by rw [hz.out]; rfl, ?_, (B2.out.alloc B2.out.size _).trans (hb4.mono (Nat.le_trans B2.out.size (by simp)))⟩
      rw [hzl.out]
      have := (SliceOut.of_row ho4 digK_length (by omega)).down (D' := w.heap.size) (Nat.le_trans B2.out.size (by simp))
      simpa [hZ] using this

end Go.Proofs.Ytocoegekdamlbaa
