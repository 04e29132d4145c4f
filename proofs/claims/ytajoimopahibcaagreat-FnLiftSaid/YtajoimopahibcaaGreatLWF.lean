
import Derived.Test.YtajoimopahibcaaGreatMF
import Derived.Test.YtajoimopahibcaaGreatNA
/- The drawing side: an ideal of a drawn ring, or a list that is none. -/
namespace Go.Proofs.YtajoimopahibcaaGreat
open Go.RowKit Go.Shelf
set_option maxRecDepth 100000

set_option maxHeartbeats 8000000 in
theorem l4Draw_any (g k D : Nat) (n o : Int) (A B : Option Addr) (q ca cb : Nat) (X Y : List Int) (w : World) (hr : Rdr w g k) (hk : k ≤ 1125899906841000) (hX : Own w D A q X) (hY : Own w D B q Y) (h1 : q ≤ 256) (hca : q ≤ ca) (hcb : q ≤ cb) :
    Calls Tryz.prog 86 #[.pointer (some ⟨g, 0, none⟩), .agg #[.int .i64 n, .int .i64 o, .slice A q ca, .slice B q cb]] w fun e w' => ∃ v L, e = .returned v ∧ SliceOut w.heap.size w' v L ∧ L.length ≤ 17 ∧ Wk g w w' ∧ Rdr w' g (k + 4) := by
  obtain ⟨i0, hi, hz0, hz1, hz2⟩ := info_parts int_info
  have hg := hr.lt
  obtain ⟨W, hW⟩ : ∃ W, w.alloc (.cells #[.int .i64 n, .int .i64 o, .slice A q ca, .slice B q cb] 25) = W := ⟨_, rfl⟩
  have hw : w.heap.size < W.heap.size := by subst hW; simp
  have bW : Below w.heap.size w W := by subst hW; exact (Below.refl _ _).alloc (Nat.le_refl _) _
  have k0 : Blk W w.heap.size 25 #[.int .i64 n, .int .i64 o, .slice A q ca, .slice B q cb] := by subst hW; exact Blk.new w _ _
  have K0 := Lib.hid k0
  have B0 := Lib.hid bW
  have R0 := Lib.hid (hr.next bW)
  have HX := Lib.hid (hX.ints.next bW)
  have HY := Lib.hid (hY.ints.next bW)
  have HW := Lib.hid hW
  obtain ⟨c0, c1, c2, c3⟩ := blk4 k0
  have hla : q ≤ 9223372036854775807 := by omega
  clear bW k0 hW
  cases hv : validB n o X Y
  · have HV := Lib.hid hv
    clear hv hX hY
    go_enter Tryz.func86, Tryz.ntmps86
    go_wp2_with (fail)
    rw [HW.out]
    refine (specValid_any n o A B q ca q cb X Y W HX.out HY.out hla hla hca hcb).mono ?_
    rw [HV.out]
    rintro e1 w1 ⟨rfl, hb1⟩
    have B1 := Lib.hid (below_step B0.out hb1)
    have R1 := Lib.hid (R0.out.next hb1)
    have s1 := B1.out.size
    have O1 := Lib.hid (show (w1.alloc (.cells #[.int .i64 0] 3)).ownsRow w.heap.size 3 1 (.slice (some ⟨w1.heap.size, 0, none⟩) 1 1) 1 [.int .i64 0] by
      have := own_lit_K (w := w1) (base := w.heap.size) (e := 3) [.int .i64 0] s1 (by unfold maxLen; simp)
      simpa using this)
    clear hb1 c0 c1 c2 c3
    go_wp2
    go_ret
    have bE : Below w1.heap.size w1 (w1.alloc (.cells #[.int .i64 0] 3)) := (Below.refl _ _).alloc (Nat.le_refl _) _
    exact ⟨_, [0], rfl, SliceOut.of_row (n := 1) O1.out rfl (by omega), by simp, (Below.wk B1.out).trans (Below.wk bE), (R1.out.next bE).more (by omega)⟩
  · obtain ⟨m, e, b1, o1, b2, o2, rfl, rfl, rfl, rfl, hrg, _, _, _, _, _⟩ := valid_data hv hX.ints hY.ints hca hcb
    have HRG := Lib.hid (hrg.next B0.out)
    have HV := Lib.hid hv
    have RR := Lib.hid (rtab_of_valid hv)
    have hm' := hrg.hm'
    have hm := hrg.hm
    have HALL := Lib.hid (RR.out.isAll hm')
    clear hv hX hY hrg
    go_enter Tryz.func86, Tryz.ntmps86
    go_wp2_with (fail)
    rw [HW.out]
    refine (specValid_any m e _ _ q ca q cb X Y W HX.out HY.out hla hla hca hcb).mono ?_
    rw [HV.out]
    rintro e1 w1 ⟨rfl, hb1⟩
    have B1 := Lib.hid (below_step B0.out hb1)
    have R1 := Lib.hid (R0.out.next hb1)
    have G1 := Lib.hid (HRG.out.next hb1)
    obtain ⟨d0, d1, d2, d3⟩ := blk4 (K0.out.next hb1)
    have s1 := hb1.size
    clear hb1 c0 c1 c2 c3
    go_wp2_with (fail)
    refine (l4All_any m e b1 o1 q ca b2 o2 q cb (tabOf X) (tabOf Y) w1 G1.out RR.out).mono ?_
    rintro e2 w2 ⟨v, rfl, ho, hb2⟩
    obtain ⟨ZZ, hZZ⟩ : ∃ Z, allL m (tabOf X) (tabOf Y) = Z := ⟨_, rfl⟩
    rw [hZZ] at ho HALL
    obtain ⟨g1, cap, xs, rfl, hg1, hcap, hcell, hel, hge⟩ := ho
    have B2 := Lib.hid (below_step B1.out hb2)
    have R2 := Lib.hid (R1.out.next hb2)
    have hsh : ZZ.length ≤ 32768 := lists_short hm' (srt_nodup HALL.out.1) fun l hl => (HALL.out.2 l).1 hl
    have hpos : 1 ≤ ZZ.length := List.length_pos_of_mem ((HALL.out.2 _).2 ⟨_, RR.out.mul_idl hm, rfl⟩)
    have HC := Lib.hid hcell
    have HE := Lib.hid hel
    obtain ⟨nl, hnl⟩ : ∃ x, ZZ.length = x := ⟨_, rfl⟩
    have HNL := Lib.hid hnl
    rw [hnl] at hcap hsh hpos ⊢
    have s2 := hb2.size
    clear hb2 hcell hel hZZ hnl d0 d1 d2 d3
    go_wp2_with (fail)
    refine (pick_any g k _ w2 R2.out (by omega)).mono ?_
    rintro e3 w3 ⟨x, rfl, hx0, hx1, hw3, hr3⟩
    obtain ⟨j, rfl⟩ := Int.eq_ofNat_of_zero_le hx0
    have hj : j < nl := by omega
    obtain ⟨Z, hZ⟩ : ∃ Z, ZZ[j]? = some Z := ⟨_, List.getElem?_eq_getElem (by rw [HNL.out]; exact hj)⟩
    obtain ⟨C, c, hy1, hy2, hy3, hy4⟩ := HE.out.2 j Z hZ
    obtain ⟨p, hp, hpe⟩ := (HALL.out.2 Z).1 (List.mem_of_getElem? hZ)
    have hl16 : Z.length ≤ 16 := by rw [hpe]; exact Nat.le_trans lst_le hm'
    have hl1 : 1 ≤ Z.length := by rw [hpe, lst_len]; exact sel_pos hp.z hm
    obtain ⟨ln, hln⟩ : ∃ x, Z.length = x := ⟨_, rfl⟩
    rw [hln] at hy1 hy2 hy3 hy4 hl16 hl1
    have HLN := Lib.hid hln
    have hck : w3.cell? ⟨g1, j, none⟩ = some (.slice C ln c) := (hw3.cell (p := ⟨g1, j, none⟩) hg1 (by show g1 ≠ g; omega)).trans (HC.out j _ hy1)
    have O3 := Lib.hid (hy4.wk hw3 (by omega))
    have X3 := Lib.hid ((Below.wk (g := g) B2.out).trans hw3)
    have R3 := Lib.hid hr3
    have s3 := hw3.size
    clear hx0 hx1 hw3 hr3 hy1 hy4 hZ hpe hp hln
    go_wp2_with (fail)
    refine (pick_any g (k + 1) 20 w3 R3.out (by omega)).mono ?_
    rintro e4 w4 ⟨x, rfl, hx0, hx1, hw4, hr4⟩
    obtain ⟨y, rfl⟩ := Int.eq_ofNat_of_zero_le hx0
    have O4 := Lib.hid (O3.out.wk hw4 (by omega))
    have X4 := Lib.hid (X3.out.trans hw4)
    have R4 := Lib.hid hr4
    have s4 := hw4.size
    clear hw4 hr4 hck
    by_cases hy0 : y = 0
    · subst hy0
      obtain ⟨b', off', rfl, hD2, hb', hcs⟩ := O4.out.2 (by omega)
      have bE : Below w4.heap.size w4 (w4.alloc (.cells #[] 3)) := (Below.refl _ _).alloc (Nat.le_refl _) _
      have OC := Lib.hid (show (w4.alloc (.cells #[] 3)).ownsRow w4.heap.size 3 1 (.slice (some ⟨w4.heap.size, 0, none⟩) 0 0) 0 [] by
        have := own_lit_K (w := w4) (base := w4.heap.size) (e := 3) [] (Nat.le_refl _) (by unfold maxLen; simp)
        simpa using this)
      have hZl : Z.length = ln := HLN.out
      have HNW := Lib.hid (show ∀ (j : Nat) (u : Value), (Z.map (Value.int .i64))[j]? = some u → (w4.alloc (.cells #[] 3)).cell? ((⟨b', off', none⟩ : Addr).add j) = some u from fun j u hu => by
        have hjl : j < Z.length := by
          have := (List.getElem?_eq_some_iff.1 hu).1
          simpa using this
        have e1 := (bE.cell (p := ⟨b', off' + j, none⟩) hb').trans (hcs j (by omega)).1
        rw [List.getElem?_map, List.getElem?_eq_getElem hjl] at hu
        simp at hu
        rw [show (⟨b', off', none⟩ : Addr).add j = ⟨b', off' + j, none⟩ from by unfold Addr.add; split <;> simp_all, ← hu]
        simpa [hjl] using e1)
      have HBC := Lib.hid bE
      have HNL2 := Lib.hid (show (Z.map (Value.int .i64)).length = ln * 1 by simp [hZl])
      have HOC := Lib.hid (show ∀ u ∈ Z.map (Value.int .i64), u.oneCell' = true from fun u hu => by
        rw [List.mem_map] at hu
        obtain ⟨z, _, rfl⟩ := hu
        rfl)
      obtain ⟨NW, hNW⟩ : ∃ x, Z.map (Value.int .i64) = x := ⟨_, rfl⟩
      rw [hNW] at HNW HNL2 HOC
      have HNWe := Lib.hid hNW
      clear bE hcs hNW hZl O4 hx1
      go_wp2_with (at_builtin; refine wpList_append_own _ rfl _ _ 23 rfl w4.heap.size 3 i0 (.int .i64 0) 1 8 Tryz.underlying23 hi hz0 hz1 hz2 rfl (by decide) _ _ _ rfl OC.out ⟨b', off', none⟩ ln c NW rfl HNL2.out HNW.out HOC.out (by unfold maxLen; omega) (by omega) (by simp) ?_; intro v5 w5 hown5 hg5 _; have B5 := Lib.hid (HBC.out.grown hg5 HBC.out.size (fun k hk => (OC.out.lt k hk).1)); have O5 := Lib.hid (show w5.ownsRow w4.heap.size 3 1 v5 ln NW by simpa using hown5); have s5 := B5.out.size; clear hown5 hg5)
      have b6 : Below w5.heap.size w5 (w5.alloc (.cells #[.int .i64 0, .int .i64 1, .int .i64 16, .int .i64 (-1)] 3)) := (Below.refl _ _).alloc (Nat.le_refl _) _
      obtain ⟨A6, l6, c6, e6, o6, _, _⟩ := SliceOut.of_row (Z := [0, 1, 16, -1]) (n := 4) (own_lit_K (w := w5) (base := w5.heap.size) (e := 3) [.int .i64 0, .int .i64 1, .int .i64 16, .int .i64 (-1)] (Nat.le_refl _) (by unfold maxLen; simp)) rfl (by omega)
      have e7 : A6 = some ⟨w5.heap.size, 0, none⟩ ∧ l6 = 4 ∧ c6 = 4 := by simp at e6; obtain ⟨h1, h2, h3⟩ := e6; exact ⟨h1.symm, h2.symm, h3.symm⟩
      obtain ⟨rfl, rfl, rfl⟩ := e7
      have X6 := Lib.hid ((X4.out.trans (Below.wk B5.out)).trans (Below.wk b6))
      have R6 := Lib.hid ((R4.out.next B5.out).next b6)
      have O6 := Lib.hid (own_nextK O5.out b6)
      clear b6 e6
      refine (num_any g (k + 2) _ 4 4 _ [0, 1, 16, -1] _ R6.out (by omega) o6.ints (fun a e => by injection e with e; subst e; show w5.heap.size ≠ g; omega) (by omega) (by omega)).mono ?_
      rintro e7 w7 ⟨i, hi4, rfl, hw7, hr7⟩
      obtain ⟨z, hz⟩ : ∃ z, ([0, 1, 16, -1] : List Int)[i]?.getD 0 = z := ⟨_, rfl⟩
      rw [hz]
      have X7 := Lib.hid (X6.out.trans hw7)
      have R7 := Lib.hid hr7
      have s7 := hw7.size
      rw [World.size_alloc] at s7
      have O7 := Lib.hid (O6.out.kept hw7.grown (.inr fun e => by have := (O6.out.lt g e).1; omega))
      have wr2 : Below w7.heap.size w7 (w7.alloc (.cells #[.int .i64 z] 3)) := (Below.refl _ _).alloc (Nat.le_refl _) _
      clear hw7 hr7 hz o6
      go_wp2_with (at_builtin; refine wpList_append_own _ rfl _ _ 23 rfl w4.heap.size 3 i0 (.int .i64 0) 1 8 Tryz.underlying23 hi hz0 hz1 hz2 rfl (by decide) _ _ _ rfl (O7.out.alloc _) ⟨w7.heap.size, 0, none⟩ 1 1 [.int .i64 z] rfl rfl (by intro j u hj; match j, hj with | 0, hj => simp at hj; subst hj; simp [Addr.add]) (by intro u hu; simp at hu; subst hu; rfl) (by unfold maxLen; omega) (by omega) (by simp; omega) ?_; intro v8 w8 hown8 hg8 _; have B8 := Lib.hid (((Below.refl w4.heap.size w7).trans (wr2.mono (by omega))).grown hg8 (by have := wr2.size; omega) (fun k hk => (O7.out.lt k hk).1)); have O8 := Lib.hid (show w8.ownsRow w4.heap.size 3 1 v8 (ln + 1) ((Z ++ [z]).map (.int .i64)) by rw [List.map_append, HNWe.out]; simpa using hown8); clear hown8 hg8 wr2)
      go_ret
      exact ⟨_, Z ++ [z], rfl, (SliceOut.of_row O8.out (by simp [HLN.out]) (by omega)).down (by omega), by simp [HLN.out]; omega, X7.out.on B8.out (by omega), (R7.out.below B8.out (by omega)).more (by omega)⟩
    · have t0 : ((y : Int) == 0) = false := by rw [beq_eq_false_iff_ne]; omega
      by_cases hy1' : y = 1
      · subst hy1'
        have bE : Below w4.heap.size w4 (w4.alloc (.cells #[] 3)) := (Below.refl _ _).alloc (Nat.le_refl _) _
        have O1 := Lib.hid (show (w4.alloc (.cells #[] 3)).ownsRow w.heap.size 3 1 (.slice (some ⟨w4.heap.size, 0, none⟩) 0 0) 0 [] by
          have := own_lit_K (w := w4) (base := w.heap.size) (e := 3) [] (by omega) (by unfold maxLen; simp)
          simpa using this)
        go_wp2
        go_ret
        exact ⟨_, [], rfl, SliceOut.of_row (n := 0) O1.out rfl (by omega), by simp, X4.out.trans (Below.wk bE), (R4.out.next bE).more (by omega)⟩
      · have t1 : ((y : Int) == 1) = false := by rw [beq_eq_false_iff_ne]; omega
        go_wp2
        go_ret
        exact ⟨_, Z, rfl, ⟨C, ln, c, rfl, O4.out.down (by omega), hy2, hy3⟩, by rw [HLN.out]; omega, X4.out, R4.out.more (by omega)⟩

end Go.Proofs.YtajoimopahibcaaGreat

