/- Texts of this seat in one: XA XC XY XZ. -/
import Derived.Test.YtbppikjhhifmcaaMO
import Derived.WalkMore
import Derived.Test.YtbppikjhhifmcaaNC
import Derived.Test.YtbppikjhhifmcaaNF

/- PrimitivesOf of both sides: the idempotents that are no sums of others. -/
namespace Go.Proofs.Ytbppikjhhifmcaa
open Go.RowKit Go.Shelf
set_option maxRecDepth 100000

end Go.Proofs.Ytbppikjhhifmcaa



/- PrimitivesOf of the reading side. -/
namespace Go.Proofs.Ytbppikjhhifmcaa
open Go.RowKit Go.Shelf
set_option maxRecDepth 100000

theorem Own.keepX {w w' : World} {D n : Nat} {A : Option Addr} {xs : List Int} (h : Own w D A n xs) (hs : w.heap.size ≤ w'.heap.size) (hk : ∀ g, D ≤ g → g < w.heap.size → w'.heap[g]? = w.heap[g]?) : Own w' D A n xs :=
  ⟨h.1, fun hn => by
    obtain ⟨g, off, e, hD, hlt, hc⟩ := h.2 hn
    have hb := hk g hD hlt
    refine ⟨g, off, e, hD, Nat.lt_of_lt_of_le hlt hs, fun k hk => ?_⟩
    rw [World.cell?_of_block (a := ⟨g, off + k, none⟩) hb, World.frozen?_of_block (a := ⟨g, off + k, none⟩) hb]
    exact hc k hk⟩

end Go.Proofs.Ytbppikjhhifmcaa



/- ResidueSizes of the program. -/
namespace Go.Proofs.Ytbppikjhhifmcaa
open Go.RowKit Go.Shelf
set_option maxRecDepth 100000

/-- The sizes of the classes by the maximal ideals among these lists. -/
noncomputable def rsL (n o : Int) (X Y : List Int) (ZZ : List (List Int)) : List Int := (ZZ.filter fun Z => mxmB n o X Y Z).map fun Z => ((n.toNat / Z.length : Nat) : Int)
noncomputable def resL (n o : Int) (X Y : List Int) : List Int := rsL n o X Y (alsL n o X Y)
theorem rsL_no {n o : Int} {X Y Z : List Int} {ZZ : List (List Int)} (h : mxmB n o X Y Z = false) : rsL n o X Y (ZZ ++ [Z]) = rsL n o X Y ZZ := by
  unfold rsL; rw [List.filter_append]; simp [h]
theorem rsL_yes {n o : Int} {X Y Z : List Int} {ZZ : List (List Int)} (h : mxmB n o X Y Z = true) : rsL n o X Y (ZZ ++ [Z]) = rsL n o X Y ZZ ++ [((n.toNat / Z.length : Nat) : Int)] := by
  unfold rsL; rw [List.filter_append]; simp [h]
theorem rsL_len {n o : Int} {X Y : List Int} {ZZ : List (List Int)} : (rsL n o X Y ZZ).length ≤ ZZ.length := by
  unfold rsL; rw [List.length_map]; exact List.length_filter_le _ _
theorem rsL_nil {n o : Int} {X Y : List Int} : rsL n o X Y [] = [] := rfl
theorem take_one {ZZ : List (List Int)} {k : Nat} {Z : List Int} (h : ZZ[k]? = some Z) : ZZ.take (k + 1) = ZZ.take k ++ [Z] := by
  have hk := (List.getElem?_eq_some_iff.1 h).1
  rw [List.getElem?_eq_getElem hk] at h
  rw [List.take_succ_eq_append_getElem hk]
  simp only [Option.some.injEq] at h
  rw [h]
/-- A list among all ideals: the ring is one, the list has an element. -/
theorem als_in {n o : Int} {A B : Option Addr} {la ca lb cb : Nat} {X Y Z : List Int} {w : World} {i : Nat} (hX : Ints w w.heap.size A la X) (hY : Ints w w.heap.size B lb Y) (hca : la ≤ ca) (hcb : lb ≤ cb) (h : (alsL n o X Y)[i]? = some Z) : ∃ m : Nat, n = m ∧ 1 ≤ m ∧ m ≤ 16 ∧ 0 < Z.length ∧ Z.length ≤ 16 := by
  obtain ⟨_, h2⟩ := als_facts (n := n) (o := o) hX hY hca hcb
  obtain ⟨h3, h4⟩ := h2 i Z h
  by_cases hv : validB n o X Y = true
  · obtain ⟨m, e, b1, o1, b2, o2, rfl, rfl, rfl, rfl, hr, _, _, _, _, _⟩ := valid_data hv hX hY hca hcb
    exact ⟨m, rfl, hr.hm, hr.hm', h3, h4⟩
  · rw [als_no hv] at h
    simp at h

/-- The sizes of the classes by these lists. -/
def szL (n : Int) (ZZ : List (List Int)) : List Int := ZZ.map fun Z => ((n.toNat / Z.length : Nat) : Int)
theorem szL_res {n o : Int} {X Y : List Int} : szL n (mxL n o X Y) = resL n o X Y := rfl
theorem szL_len {n : Int} {ZZ : List (List Int)} : (szL n ZZ).length = ZZ.length := List.length_map _
theorem szL_more {n : Int} {ZZ : List (List Int)} {Z : List Int} : szL n (ZZ ++ [Z]) = szL n ZZ ++ [((n.toNat / Z.length : Nat) : Int)] := by unfold szL; rw [List.map_append]; rfl

set_option maxHeartbeats 8000000 in
theorem res_any (n o : Int) (A B : Option Addr) (la ca lb cb : Nat) (X Y : List Int) (w : World) (hX : Ints w w.heap.size A la X) (hY : Ints w w.heap.size B lb Y) (hla : la ≤ 9223372036854775807) (hlb : lb ≤ 9223372036854775807) (hca : la ≤ ca) (hcb : lb ≤ cb) :
    Calls Try.prog 12 #[.agg #[.int .i64 n, .int .i64 o, .slice A la ca, .slice B lb cb]] w fun e' w' => ∃ v, e' = .returned v ∧ SliceOut w.heap.size w' v (resL n o X Y) ∧ Below w.heap.size w w' := by
  obtain ⟨i0, hi, hz0, hz1, hz2⟩ := info_parts int_info
  obtain ⟨W, hW⟩ : ∃ W, w.alloc (.cells #[.int .i64 n, .int .i64 o, .slice A la ca, .slice B lb cb] 27) = W := ⟨_, rfl⟩
  have k0 : Blk W w.heap.size 27 #[.int .i64 n, .int .i64 o, .slice A la ca, .slice B lb cb] := by
    subst hW; exact Blk.new w _ _
  have b0 : Below w.heap.size w W := by
    subst hW; exact (Below.refl _ _).alloc (Nat.le_refl _) _
  obtain ⟨c0, c1, c2, c3⟩ := blk4 k0
  have HX0 := Lib.hid hX
  have HY0 := Lib.hid hY
  have HX := Lib.hid (hX.next b0)
  have HY := Lib.hid (hY.next b0)
  have K0 := Lib.hid k0
  have B0 := Lib.hid b0
  have HW := Lib.hid hW
  have hs0 := k0.lt
  obtain ⟨hzs0, _⟩ := als_facts (n := n) (o := o) hX hY hca hcb
  have hzs : (mxL n o X Y).length ≤ 32768 := Nat.le_trans mxL_len (by omega)
  clear k0 hW b0 hX hY
  go_enter Try.func12, Try.ntmps12
  go_wp2_with (fail)
  rw [HW.out]
  refine (mxs_any n o A B la ca lb cb X Y W HX.out HY.out hla hlb hca hcb).mono ?_
  rintro e1 w1 ⟨v, rfl, ho, hb1⟩
  have HO := Lib.hid ho.lists.readr
  have B1 := Lib.hid (below_step B0.out hb1)
  have K1 := Lib.hid (K0.out.next hb1)
  have hsW : w.heap.size ≤ w1.heap.size := B1.out.size
  have lr1 := K1.out.lt
  clear hb1 ho c0 c1 c2 c3
  obtain ⟨C, cap, rfl, hA⟩ := HO.out
  obtain ⟨ZZ, hZZ⟩ : ∃ Z, mxL n o X Y = Z := ⟨_, rfl⟩
  rw [hZZ] at hA hzs ⊢
  have HZZ := Lib.hid hZZ
  have HA := Lib.hid hA
  obtain ⟨nl, hnl⟩ : ∃ x, ZZ.length = x := ⟨_, rfl⟩
  rw [hnl] at hzs ⊢
  have HNL := Lib.hid hnl
  obtain ⟨Bs, hBs⟩ : ∃ b, w1.heap.size = b := ⟨_, rfl⟩
  have HBS := Lib.hid hBs
  rw [hBs] at hsW lr1
  clear hA hnl hBs hZZ HO
  go_wp2
  go_loopg [3, 9] nl (fun g2 vs vi wr => ∃ y : Nat, y ≤ nl ∧ nl ≤ y + g2 ∧ vi = .int .i64 y ∧ wr.ownsRow Bs 3 1 vs (szL n (ZZ.take y)).length ((szL n (ZZ.take y)).map (.int .i64)) ∧ Below Bs w1 wr)
  case atStart => exact ⟨0, Nat.zero_le _, by omega, rfl, by rw [List.take_zero]; exact ⟨by simp [szL], .inl ⟨rfl, rfl⟩⟩, Below.refl _ _⟩
  case round =>
    obtain ⟨y, hy, hg2, rfl, hown, hb⟩ := hrel
    have hsz : Bs ≤ wr.heap.size := by rw [← HBS.out]; exact hb.size
    have OW := Lib.hid hown
    have BW := Lib.hid hb
    have KW := Lib.hid (show Blk wr w.heap.size 27 #[.int .i64 n, .int .i64 o, .slice A la ca, .slice B lb cb] from (hb.block _ lr1).trans K1.out)
    clear hown hb
    by_cases hlt : y < nl
    · obtain ⟨Z, hZ⟩ : ∃ Z, ZZ[y]? = some Z := ⟨_, List.getElem?_eq_getElem (by rw [HNL.out]; exact hlt)⟩
      obtain ⟨g, C', c, rfl, h2, hc, h4, h5, h6⟩ := HA.out y Z hZ
      rw [HBS.out] at h2
      have hck : wr.cell? ⟨g, y, none⟩ = some (.slice C' Z.length c) := (BW.out.cell (p := ⟨g, y, none⟩) h2).trans hc
      obtain ⟨j0, hj0⟩ := mxL_get (n := n) (o := o) (X := X) (Y := Y) (i := y) (Z := Z) (by rw [HZZ.out]; exact hZ)
      obtain ⟨m, hnm, hm, hm', hp1, hp2⟩ := als_in (n := n) (o := o) HX0.out HY0.out hca hcb hj0
      have HTK := Lib.hid (take_one hZ)
      obtain ⟨ln, hln⟩ : ∃ x, Z.length = x := ⟨_, rfl⟩
      rw [hln] at hck h4 h5 hp1 hp2
      have HLN := Lib.hid hln
      have HNM := Lib.hid hnm
      obtain ⟨qn, hqn⟩ : ∃ q, m / ln = q := ⟨_, rfl⟩
      have hq16 : qn ≤ 16 := by rw [← hqn]; exact Nat.le_trans (Nat.div_le_self _ _) hm'
      have hdv : (m : Int) / (ln : Int) = (qn : Int) := by rw [← hqn]; simp
      have HQN := Lib.hid hqn
      have hl0 : ¬ ln = 0 := by omega
      have hrl : (szL n (ZZ.take y)).length ≤ 32768 := by rw [szL_len, List.length_take, HNL.out]; omega
      have HR := Lib.hid (show szL n (ZZ.take (y + 1)) = szL n (ZZ.take y) ++ [(qn : Int)] by rw [HTK.out, szL_more, HNM.out, Int.toNat_natCast, HLN.out, HQN.out])
      obtain ⟨d0, d1, d2, d3⟩ := blk4 KW.out
      rw [HNM.out] at d0
      clear h6 hc hZ hln hqn hnm hj0
      have wr3 : Below wr.heap.size wr (wr.alloc (.cells #[.int .i64 (qn : Int)] 3)) := (Below.refl _ _).alloc (Nat.le_refl _) _
      go_wp2_with (at_builtin; refine wpList_append_own_at _ rfl _ _ 22 rfl Bs 3 i0 (.int .i64 0) 1 8 Try.underlying22 hi hz0 hz1 hz2 rfl (by decide) _ _ _ rfl (OW.out.alloc _) ⟨wr.heap.size, 0, none⟩ 1 1 [.int .i64 (qn : Int)] rfl rfl (by intro i u hi; match i, hi with | 0, hi => simp at hi; subst hi; simp [Addr.add]) (by intro u hu; simp at hu; subst hu; rfl) (by unfold maxLen; omega) (by omega) (by simp; omega) ?_; intro v5 w5 hown5 hg5 _ hl5; have B5 := Lib.hid ((BW.out.trans (wr3.mono hsz)).grown hg5 (Nat.le_trans hsz wr3.size) (fun k hk => (OW.out.lt k hk).1)); have O5 := Lib.hid (show w5.ownsRow Bs 3 1 v5 (szL n (ZZ.take (y + 1))).length ((szL n (ZZ.take (y + 1))).map (.int .i64)) by rw [HR.out]; simpa using hown5); clear hown5 hg5 hl5)
      go_roundg (nl - (y + 1))
      case measure => omega
      case rel => exact ⟨y + 1, by omega, by omega, by go_num, O5.out, B5.out⟩
    · have hym : y = nl := by omega
      subst hym
      have HT := Lib.hid (show ZZ.take y = ZZ from List.take_of_length_le (by rw [HNL.out]; exact Nat.le_refl _))
      go_wp2
      go_ret
      refine ⟨_, by rfl, ?_, B1.out.trans (BW.out.mono hsW)⟩
      have h := OW.out
      rw [HT.out] at h
      rw [← szL_res, HZZ.out]
      exact (SliceOut.of_row h rfl (by rw [szL_len, HNL.out]; omega)).down hsW

end Go.Proofs.Ytbppikjhhifmcaa



/- ResidueSizes of the reading side, IsLocal of both sides. -/
namespace Go.Proofs.Ytbppikjhhifmcaa
open Go.RowKit Go.Shelf
set_option maxRecDepth 100000

theorem LLo.down {D D' : Nat} {w : World} {v : Value} {ZZ : List (List Int)} (h : LLo D w v ZZ) (hD : D' ≤ D) : LLo D' w v ZZ := by
  obtain ⟨xs, h1, h2⟩ := h
  exact ⟨xs, own_base h1 hD, ⟨h2.1, fun i Z hZ => by obtain ⟨B, l, c, e1, e2, e3⟩ := h2.2 i Z hZ; exact ⟨B, l, c, e1, e2.down hD, e3⟩⟩⟩
theorem LLo.readX {D : Nat} {w w' : World} {v : Value} {ZZ : List (List Int)} (h : LLo D w v ZZ) (hs : w.heap.size ≤ w'.heap.size) (hk : ∀ g, D ≤ g → g < w.heap.size → w'.heap[g]? = w.heap[g]?) : LLr w' v ZZ := by
  by_cases hn : 1 ≤ ZZ.length
  · obtain ⟨xs, h1, h2⟩ := h
    rcases h1.2 with ⟨_, h0⟩ | ⟨g, cap, cur, rfl, hg, hb, hc, _, _, ht⟩
    · omega
    · have hb' : Blk w g 22 cur := hb
      have hb2 : Blk w' g 22 cur := (hk g hg hb'.lt).trans hb'
      refine ⟨_, cap, rfl, fun i Z hZ => ?_⟩
      obtain ⟨B, l, c, e1, e2, e3, e4, _⟩ := h2.2 i Z hZ
      have hl := e2.1
      have hi : i < ZZ.length := (List.getElem?_eq_some_iff.1 hZ).1
      refine ⟨g, B, c, rfl, hb2.lt, ?_, by rw [hl]; exact e3, by rw [hl]; exact e4, by rw [hl]; exact (e2.keepX hs hk).ints⟩
      rw [hb2.cell i, hl]
      have e5 : cur.toList[i]? = xs[i]? := by rw [← ht, List.getElem?_take]; simp; omega
      rw [← Array.getElem?_toList, e5, e1]
  · have e0 : ZZ = [] := List.eq_nil_of_length_eq_zero (by omega)
    subst e0
    obtain ⟨xs, h1, _⟩ := h
    rcases h1.2 with ⟨e, _⟩ | ⟨g, cap, cur, e, _⟩
    · exact ⟨none, 0, e, fun i Z hZ => by simp at hZ⟩
    · exact ⟨_, cap, e, fun i Z hZ => by simp at hZ⟩

set_option maxHeartbeats 4000000 in
theorem salsO_any (n o : Int) (A B : Option Addr) (la ca lb cb : Nat) (X Y : List Int) (w : World) (hX : Ints w w.heap.size A la X) (hY : Ints w w.heap.size B lb Y) (hla : la ≤ 9223372036854775807) (hlb : lb ≤ 9223372036854775807) (hca : la ≤ ca) (hcb : lb ≤ cb) :
    Calls Try.prog 14 #[.agg #[.int .i64 n, .int .i64 o, .slice A la ca, .slice B lb cb]] w fun e' w' => ∃ v, e' = .returned v ∧ LLo w.heap.size w' v (alsL n o X Y) ∧ Below w.heap.size w w' := by
  obtain ⟨W, hW⟩ : ∃ W, w.alloc (.cells #[.int .i64 n, .int .i64 o, .slice A la ca, .slice B lb cb] 27) = W := ⟨_, rfl⟩
  have k0 : Blk W w.heap.size 27 #[.int .i64 n, .int .i64 o, .slice A la ca, .slice B lb cb] := by
    subst hW; exact Blk.new w _ _
  have b0 : Below w.heap.size w W := by
    subst hW; exact (Below.refl _ _).alloc (Nat.le_refl _) _
  obtain ⟨c0, c1, c2, c3⟩ := blk4 k0
  obtain ⟨hz1, hz2⟩ := als_facts (n := n) (o := o) hX hY hca hcb
  have HX := Lib.hid (hX.next b0)
  have HY := Lib.hid (hY.next b0)
  have B0 := Lib.hid b0
  have HW := Lib.hid hW
  have HZ := Lib.hid hz2
  clear hX hY b0 hW k0 hz2
  go_enter Try.func14, Try.ntmps14
  go_wp2_with (fail)
  rw [HW.out]
  refine (sraws_any n o A B la ca lb cb X Y W HX.out HY.out hla hlb hca hcb).mono ?_
  rintro e1 w1 ⟨v, rfl, ho, hb1⟩
  have HO := Lib.hid ho
  have B1 := Lib.hid (below_step B0.out hb1)
  clear hb1 ho c0 c1 c2 c3
  go_wp2_with (fail)
  refine (l13OwnLL_any v (alsL n o X Y) w1 HO.out (by omega) (fun i Z h => (HZ.out i Z h).1)).mono ?_
  rintro e2 w2 ⟨v2, rfl, ho2, hb2⟩
  have HO2 := Lib.hid (ho2.down B1.out.size)
  have B2 := Lib.hid (below_step B1.out hb2)
  clear hb2 ho2
  go_wp2
  go_ret
  exact ⟨v2, rfl, HO2.out, B2.out⟩

set_option maxHeartbeats 8000000 in
theorem sres_any (n o : Int) (A B : Option Addr) (la ca lb cb : Nat) (X Y : List Int) (w : World) (hX : Ints w w.heap.size A la X) (hY : Ints w w.heap.size B lb Y) (hla : la ≤ 9223372036854775807) (hlb : lb ≤ 9223372036854775807) (hca : la ≤ ca) (hcb : lb ≤ cb) :
    Calls Try.prog 10 #[.agg #[.int .i64 n, .int .i64 o, .slice A la ca, .slice B lb cb]] w fun e' w' => ∃ v, e' = .returned v ∧ SliceOut w.heap.size w' v (resL n o X Y) ∧ Below w.heap.size w w' := by
  obtain ⟨i0, hi, hz0, hz1, hz2⟩ := info_parts int_info
  obtain ⟨W, hW⟩ : ∃ W, (w.alloc (.cells #[.int .i64 n, .int .i64 o, .slice A la ca, .slice B lb cb] 27)).alloc (.cells #[] 3) = W := ⟨_, rfl⟩
  have k0 : Blk W w.heap.size 27 #[.int .i64 n, .int .i64 o, .slice A la ca, .slice B lb cb] := by
    subst hW; exact (Blk.new w _ _).alloc _
  have b0 : Below w.heap.size w W := by
    subst hW; exact ((Below.refl _ _).alloc (Nat.le_refl _) _).alloc (by simp) _
  have o0 : W.ownsRow w.heap.size 3 1 (.slice (some ⟨w.heap.size + 1, 0, none⟩) 0 0) 0 [] := by
    subst hW
    have := own_lit_K (w := w.alloc (.cells #[.int .i64 n, .int .i64 o, .slice A la ca, .slice B lb cb] 27)) (base := w.heap.size) (e := 3) [] (by simp) (by unfold maxLen; simp)
    simpa using this
  have k0' : Blk ((w.alloc (.cells #[.int .i64 n, .int .i64 o, .slice A la ca, .slice B lb cb] 27)).alloc (.cells #[] 3)) w.heap.size 27 #[.int .i64 n, .int .i64 o, .slice A la ca, .slice B lb cb] := by rw [hW]; exact k0
  obtain ⟨c0, c1, c2, c3⟩ := blk4 k0'
  clear k0'
  have HX0 := Lib.hid hX
  have HY0 := Lib.hid hY
  have HX := Lib.hid (hX.next b0)
  have HY := Lib.hid (hY.next b0)
  have K0 := Lib.hid k0
  have B0 := Lib.hid b0
  have O0 := Lib.hid o0
  have HW := Lib.hid hW
  have hs0 := k0.lt
  have hsz0 : W.heap.size = w.heap.size + 2 := by subst hW; simp
  obtain ⟨hzs, _⟩ := als_facts (n := n) (o := o) hX hY hca hcb
  clear k0 hW b0 o0 hX hY
  go_enter Try.func10, Try.ntmps10
  go_wp2_with (fail)
  rw [HW.out]
  refine (salsO_any n o A B la ca lb cb X Y W HX.out HY.out hla hlb hca hcb).mono ?_
  rintro e1 w1 ⟨v, rfl, ho, hb1⟩
  obtain ⟨gU, hgU⟩ : ∃ g, w.heap.size + 1 = g := ⟨_, rfl⟩
  have HO := Lib.hid (show LLo (gU + 1) w1 v (alsL n o X Y) from ho.down (by omega))
  have B1 := Lib.hid (below_step B0.out hb1)
  have K1 := Lib.hid (K0.out.next hb1)
  have HX1 := Lib.hid (HX.out.next hb1)
  have HY1 := Lib.hid (HY.out.next hb1)
  have O1 := Lib.hid (own_nextK O0.out hb1)
  have hsW : w.heap.size ≤ w1.heap.size := B1.out.size
  have s1 := hb1.size
  have lr1 := K1.out.lt
  have hgW : gU < w1.heap.size := by omega
  rw [hgU] at O1
  obtain ⟨C, cap, rfl, _⟩ := ho.readr
  rw [hgU]
  clear hb1 ho c0 c1 c2 c3
  obtain ⟨ZZ, hZZ⟩ : ∃ Z, alsL n o X Y = Z := ⟨_, rfl⟩
  rw [hZZ] at HO hzs ⊢
  have HZZ := Lib.hid hZZ
  obtain ⟨nl, hnl⟩ : ∃ x, ZZ.length = x := ⟨_, rfl⟩
  have HNL := Lib.hid hnl
  rw [hnl] at hzs HO ⊢
  clear hnl hZZ
  go_wp2
  go_loopg [3, 10] nl (fun g2 vs vi wr => ∃ y : Nat, y ≤ nl ∧ nl ≤ y + g2 ∧ vi = .int .i64 y ∧ wr.ownsRow w.heap.size 3 1 vs (rsL n o X Y (ZZ.take y)).length ((rsL n o X Y (ZZ.take y)).map (.int .i64)) ∧ Below w.heap.size w wr ∧ w1.heap.size ≤ wr.heap.size ∧ (∀ k, k < w1.heap.size → k ≠ gU → wr.heap[k]? = w1.heap[k]?) ∧ ∀ g, vs.ownBlock = some g → g = gU ∨ w1.heap.size ≤ g)
  case atStart => exact ⟨0, Nat.zero_le _, by omega, rfl, by rw [List.take_zero, rsL_nil]; exact O1.out, B1.out, Nat.le_refl _, fun _ _ _ => rfl, fun g e => .inl (by simp only [Value.ownBlock, Option.some.injEq] at e; exact e.symm)⟩
  case round =>
    obtain ⟨y, hy, hg2, rfl, hown, hb, hsw, hkp, hat⟩ := hrel
    have hsz := hb.size
    have OW := Lib.hid hown
    have BW := Lib.hid hb
    have KW := Lib.hid (show Blk wr w.heap.size 27 #[.int .i64 n, .int .i64 o, .slice A la ca, .slice B lb cb] from (hkp _ (by omega) (by omega)).trans K1.out)
    have HXW := Lib.hid (HX0.out.next hb)
    have HYW := Lib.hid (HY0.out.next hb)
    have HAW := Lib.hid (HO.out.readX hsw (fun g h1 h2 => hkp g h2 (by omega)))
    have HKP := Lib.hid hkp
    have HAT := Lib.hid hat
    clear hown hb hkp hat
    by_cases hlt : y < nl
    · obtain ⟨Z, hZ⟩ : ∃ Z, ZZ[y]? = some Z := ⟨_, List.getElem?_eq_getElem (by rw [HNL.out]; exact hlt)⟩
      obtain ⟨C2, cap2, hvv, hA⟩ := HAW.out
      simp only [Value.slice.injEq] at hvv
      obtain ⟨rfl, hq, rfl⟩ := hvv
      clear hq
      obtain ⟨g, C', c, rfl, h2, hc, h4, h5, h6⟩ := hA y Z hZ
      have hck : wr.cell? ⟨g, y, none⟩ = some (.slice C' Z.length c) := hc
      obtain ⟨m, hnm, hm, hm', hp1, hp2⟩ := als_in (n := n) (o := o) HX0.out HY0.out hca hcb (by rw [HZZ.out]; exact hZ)
      have HTK := Lib.hid (take_one hZ)
      have H6 := Lib.hid h6
      obtain ⟨ln, hln⟩ : ∃ x, Z.length = x := ⟨_, rfl⟩
      rw [hln] at hck h4 h5 H6 hp1 hp2
      have HLN := Lib.hid hln
      have HNM := Lib.hid hnm
      obtain ⟨qn, hqn⟩ : ∃ q, m / ln = q := ⟨_, rfl⟩
      have hq16 : qn ≤ 16 := by rw [← hqn]; exact Nat.le_trans (Nat.div_le_self _ _) hm'
      have hdv : (m : Int) / (ln : Int) = (qn : Int) := by rw [← hqn]; simp
      have HQN := Lib.hid hqn
      have hl0 : ¬ ln = 0 := by omega
      have hrl : (rsL n o X Y (ZZ.take y)).length ≤ 32768 := Nat.le_trans rsL_len (by rw [List.length_take, HNL.out]; omega)
      obtain ⟨d0, d1, d2, d3⟩ := blk4 KW.out
      clear h6 hc hZ hln hqn hA
      cases hmx : mxmB n o X Y Z
      · have HM := Lib.hid hmx
        have HR := Lib.hid (show rsL n o X Y (ZZ.take (y + 1)) = rsL n o X Y (ZZ.take y) by rw [HTK.out]; exact rsL_no hmx)
        clear hmx hdv hnm
        go_wp2_with (fail)
        refine (smxm_any n o A B C' la ca lb cb ln c X Y Z wr HXW.out HYW.out H6.out hla hlb (by omega) hca hcb).mono ?_
        rw [HM.out]
        rintro e3 w3 ⟨rfl, hb3⟩
        have O3 := Lib.hid (own_nextK OW.out hb3)
        have B3 := Lib.hid (BW.out.trans (hb3.mono hsz))
        have C3 := Lib.hid hb3
        have s3 := hb3.size
        clear hb3 d0 d1 d2 d3
        go_wp2
        go_roundg (nl - (y + 1))
        case measure => omega
        case rel => exact ⟨y + 1, by omega, by omega, by go_num, by rw [HR.out]; exact O3.out, B3.out, Nat.le_trans hsw s3, fun k hk hkU => (C3.out.block k (by omega)).trans (HKP.out k hk hkU), HAT.out⟩
      · have HM := Lib.hid hmx
        have HR := Lib.hid (show rsL n o X Y (ZZ.take (y + 1)) = rsL n o X Y (ZZ.take y) ++ [(qn : Int)] by rw [HTK.out, rsL_yes hmx, HNM.out, Int.toNat_natCast, HLN.out, HQN.out])
        clear hmx hnm
        go_wp2_with (fail)
        refine (smxm_any n o A B C' la ca lb cb ln c X Y Z wr HXW.out HYW.out H6.out hla hlb (by omega) hca hcb).mono ?_
        rw [HM.out]
        rintro e3 w3 ⟨rfl, hb3⟩
        have O3 := Lib.hid (own_nextK OW.out hb3)
        have B3 := Lib.hid (BW.out.trans (hb3.mono hsz))
        have C3 := Lib.hid hb3
        have s3 : w.heap.size ≤ w3.heap.size := Nat.le_trans hsz hb3.size
        have s4 : wr.heap.size ≤ w3.heap.size := hb3.size
        have K3 := Lib.hid (KW.out.next hb3)
        clear hb3 d0 d1 d2 d3
        obtain ⟨d0, d1, d2, d3⟩ := blk4 K3.out
        rw [HNM.out] at d0
        have wr3 : Below w3.heap.size w3 (w3.alloc (.cells #[.int .i64 (qn : Int)] 3)) := (Below.refl _ _).alloc (Nat.le_refl _) _
        go_wp2_with (at_builtin; refine wpList_append_own_at _ rfl _ _ 22 rfl w.heap.size 3 i0 (.int .i64 0) 1 8 Try.underlying22 hi hz0 hz1 hz2 rfl (by decide) _ _ _ rfl (O3.out.alloc _) ⟨w3.heap.size, 0, none⟩ 1 1 [.int .i64 (qn : Int)] rfl rfl (by intro i u hi; match i, hi with | 0, hi => simp at hi; subst hi; simp [Addr.add]) (by intro u hu; simp at hu; subst hu; rfl) (by unfold maxLen; omega) (by omega) (by simp; omega) ?_; intro v5 w5 hown5 hg5 _ hl5; have HG5 := Lib.hid hg5; have HL5 := Lib.hid hl5; have B5 := Lib.hid ((B3.out.trans (wr3.mono s3)).grown hg5 (Nat.le_trans s3 wr3.size) (fun k hk => (O3.out.lt k hk).1)); have O5 := Lib.hid (show w5.ownsRow w.heap.size 3 1 v5 (rsL n o X Y (ZZ.take (y + 1))).length ((rsL n o X Y (ZZ.take (y + 1))).map (.int .i64)) by rw [HR.out]; simpa using hown5); clear hown5 hg5 hl5)
        go_roundg (nl - (y + 1))
        case measure => omega
        case rel =>
          have sz5 := HG5.out.size
          rw [World.size_alloc] at sz5
          refine ⟨y + 1, by omega, by omega, by go_num, O5.out, B5.out, by omega, fun k hk hkU => ?_, fun g e => ?_⟩
          · rw [HG5.out.block k (by rw [World.size_alloc]; omega) (fun e => by rcases HAT.out k e.symm with h | h <;> omega), Below.heap_alloc w3 _ k (by omega), C3.out.block k (by omega), HKP.out k hk hkU]
          · rcases HL5.out with h | h
            · exact HAT.out g (h ▸ e)
            · rw [e] at h
              simp only [World.size_alloc, Option.some.injEq] at h
              omega
    · have hym : y = nl := by omega
      subst hym
      have HT := Lib.hid (show ZZ.take y = ZZ from List.take_of_length_le (by rw [HNL.out]; exact Nat.le_refl _))
      go_wp2
      go_ret
      refine ⟨_, by rfl, ?_, BW.out⟩
      have h := OW.out
      rw [HT.out] at h
      unfold resL
      rw [HZZ.out]
      exact SliceOut.of_row h rfl (Nat.le_trans rsL_len (by rw [HNL.out]; omega))

set_option maxHeartbeats 4000000 in
theorem loc_any (n o : Int) (A B : Option Addr) (la ca lb cb : Nat) (X Y : List Int) (w : World) (hX : Ints w w.heap.size A la X) (hY : Ints w w.heap.size B lb Y) (hla : la ≤ 9223372036854775807) (hlb : lb ≤ 9223372036854775807) (hca : la ≤ ca) (hcb : lb ≤ cb) :
    Calls Try.prog 7 #[.agg #[.int .i64 n, .int .i64 o, .slice A la ca, .slice B lb cb]] w fun e' w' => e' = .returned (.bool ((resL n o X Y).length == 1)) ∧ Below w.heap.size w w' := by
  obtain ⟨W, hW⟩ : ∃ W, w.alloc (.cells #[.int .i64 n, .int .i64 o, .slice A la ca, .slice B lb cb] 27) = W := ⟨_, rfl⟩
  have k0 : Blk W w.heap.size 27 #[.int .i64 n, .int .i64 o, .slice A la ca, .slice B lb cb] := by
    subst hW; exact Blk.new w _ _
  have b0 : Below w.heap.size w W := by
    subst hW; exact (Below.refl _ _).alloc (Nat.le_refl _) _
  obtain ⟨c0, c1, c2, c3⟩ := blk4 k0
  have HX := Lib.hid (hX.next b0)
  have HY := Lib.hid (hY.next b0)
  have B0 := Lib.hid b0
  have HW := Lib.hid hW
  clear hX hY b0 hW k0
  go_enter Try.func7, Try.ntmps7
  go_wp2_with (fail)
  rw [HW.out]
  refine (res_any n o A B la ca lb cb X Y W HX.out HY.out hla hlb hca hcb).mono ?_
  rintro e1 w1 ⟨v, rfl, ho, hb1⟩
  obtain ⟨C, l, c, rfl, hC, hl1, hl2⟩ := ho
  have HL := Lib.hid hC.1
  have B1 := Lib.hid (below_step B0.out hb1)
  clear hb1 hC c0 c1 c2 c3
  by_cases ht : l = 1
  · subst ht
    go_wp2
    go_ret
    exact ⟨by rw [HL.out]; rfl, B1.out⟩
  · have h1 : ((l : Int) == 1) = false := by rw [beq_eq_false_iff_ne]; omega
    have HT := Lib.hid (show (l == 1) = false by rw [beq_eq_false_iff_ne]; exact ht)
    go_wp2
    go_ret
    exact ⟨by rw [HL.out, HT.out]; rfl, B1.out⟩

set_option maxHeartbeats 4000000 in
theorem sloc_any (n o : Int) (A B : Option Addr) (la ca lb cb : Nat) (X Y : List Int) (w : World) (hX : Ints w w.heap.size A la X) (hY : Ints w w.heap.size B lb Y) (hla : la ≤ 9223372036854775807) (hlb : lb ≤ 9223372036854775807) (hca : la ≤ ca) (hcb : lb ≤ cb) :
    Calls Try.prog 5 #[.agg #[.int .i64 n, .int .i64 o, .slice A la ca, .slice B lb cb]] w fun e' w' => e' = .returned (.bool ((resL n o X Y).length == 1)) ∧ Below w.heap.size w w' := by
  obtain ⟨W, hW⟩ : ∃ W, w.alloc (.cells #[.int .i64 n, .int .i64 o, .slice A la ca, .slice B lb cb] 27) = W := ⟨_, rfl⟩
  have k0 : Blk W w.heap.size 27 #[.int .i64 n, .int .i64 o, .slice A la ca, .slice B lb cb] := by
    subst hW; exact Blk.new w _ _
  have b0 : Below w.heap.size w W := by
    subst hW; exact (Below.refl _ _).alloc (Nat.le_refl _) _
  obtain ⟨c0, c1, c2, c3⟩ := blk4 k0
  have HX := Lib.hid (hX.next b0)
  have HY := Lib.hid (hY.next b0)
  have B0 := Lib.hid b0
  have HW := Lib.hid hW
  clear hX hY b0 hW k0
  go_enter Try.func5, Try.ntmps5
  go_wp2_with (fail)
  rw [HW.out]
  refine (sres_any n o A B la ca lb cb X Y W HX.out HY.out hla hlb hca hcb).mono ?_
  rintro e1 w1 ⟨v, rfl, ho, hb1⟩
  obtain ⟨C, l, c, rfl, hC, hl1, hl2⟩ := ho
  have HL := Lib.hid hC.1
  have B1 := Lib.hid (below_step B0.out hb1)
  clear hb1 hC c0 c1 c2 c3
  by_cases ht : l = 1
  · subst ht
    go_wp2
    go_ret
    exact ⟨by rw [HL.out]; rfl, B1.out⟩
  · have h1 : ((l : Int) == 1) = false := by rw [beq_eq_false_iff_ne]; omega
    have HT := Lib.hid (show (l == 1) = false by rw [beq_eq_false_iff_ne]; exact ht)
    go_wp2
    go_ret
    exact ⟨by rw [HL.out, HT.out]; rfl, B1.out⟩

end Go.Proofs.Ytbppikjhhifmcaa

