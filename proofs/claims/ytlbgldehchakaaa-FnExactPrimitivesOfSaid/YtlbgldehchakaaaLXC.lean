
import Derived.Test.YtlbgldehchakaaaLXA
/- PrimitivesOf of the reading side. -/
namespace Go.Proofs.Ytlbgldehchakaaa
open Go.RowKit Go.Shelf
set_option maxRecDepth 100000

theorem Own.keepX {w w' : World} {D n : Nat} {A : Option Addr} {xs : List Int} (h : Own w D A n xs) (hs : w.heap.size ≤ w'.heap.size) (hk : ∀ g, D ≤ g → g < w.heap.size → w'.heap[g]? = w.heap[g]?) : Own w' D A n xs :=
  ⟨h.1, fun hn => by
    obtain ⟨g, off, e, hD, hlt, hc⟩ := h.2 hn
    have hb := hk g hD hlt
    refine ⟨g, off, e, hD, Nat.lt_of_lt_of_le hlt hs, fun k hk => ?_⟩
    rw [World.cell?_of_block (a := ⟨g, off + k, none⟩) hb, World.frozen?_of_block (a := ⟨g, off + k, none⟩) hb]
    exact hc k hk⟩

set_option maxHeartbeats 8000000 in
theorem l7prim_any (X Y : List Int) (m e b1 o1 la ca b2 o2 lb cb : Nat) (S P : Nat → Nat) (w : World) (hr : RingAt w m e b1 o1 la ca b2 o2 lb cb S P) (hv : validB m e X Y = true) (hS : S = tabOf X) (hP : P = tabOf Y) (hX : Ints w w.heap.size (some ⟨b1, o1, none⟩) la X) (hY : Ints w w.heap.size (some ⟨b2, o2, none⟩) lb Y) (hla : la ≤ 9223372036854775807) (hlb : lb ≤ 9223372036854775807) (hca : la ≤ ca) (hcb : lb ≤ cb) :
    Calls Try.prog 57 #[.agg #[.int .i64 m, .int .i64 e, .slice (some ⟨b1, o1, none⟩) la ca, .slice (some ⟨b2, o2, none⟩) lb cb]] w fun e' w' => ∃ v, e' = .returned v ∧ SliceOut w.heap.size w' v (primL m e X Y) ∧ Below w.heap.size w w' := by
  subst hS hP
  obtain ⟨i0, hi, hz0, hz1, hz2⟩ := info_parts int_info
  obtain ⟨W, hW⟩ : ∃ W, (w.alloc (.cells #[.int .i64 m, .int .i64 e, .slice (some ⟨b1, o1, none⟩) la ca, .slice (some ⟨b2, o2, none⟩) lb cb] 27)).alloc (.cells #[] 3) = W := ⟨_, rfl⟩
  have k0 : Blk W w.heap.size 27 #[.int .i64 m, .int .i64 e, .slice (some ⟨b1, o1, none⟩) la ca, .slice (some ⟨b2, o2, none⟩) lb cb] := by
    subst hW; exact (Blk.new w _ _).alloc _
  have b0 : Below w.heap.size w W := by
    subst hW; exact ((Below.refl _ _).alloc (Nat.le_refl _) _).alloc (by simp) _
  have o0 : W.ownsRow w.heap.size 3 1 (.slice (some ⟨w.heap.size + 1, 0, none⟩) 0 0) 0 [] := by
    subst hW
    have := own_lit_K (w := w.alloc (.cells #[.int .i64 m, .int .i64 e, .slice (some ⟨b1, o1, none⟩) la ca, .slice (some ⟨b2, o2, none⟩) lb cb] 27)) (base := w.heap.size) (e := 3) [] (by simp) (by unfold maxLen; simp)
    simpa using this
  have k0' : Blk ((w.alloc (.cells #[.int .i64 m, .int .i64 e, .slice (some ⟨b1, o1, none⟩) la ca, .slice (some ⟨b2, o2, none⟩) lb cb] 27)).alloc (.cells #[] 3)) w.heap.size 27 #[.int .i64 m, .int .i64 e, .slice (some ⟨b1, o1, none⟩) la ca, .slice (some ⟨b2, o2, none⟩) lb cb] := by rw [hW]; exact k0
  obtain ⟨c0, c1, c2, c3⟩ := blk4 k0'
  clear k0'
  have HX := Lib.hid (hX.next b0)
  have HY := Lib.hid (hY.next b0)
  have K0 := Lib.hid k0
  have B0 := Lib.hid b0
  have O0 := Lib.hid o0
  have HW := Lib.hid hW
  have hs0 := k0.lt
  have hz := Lib.hid (primL_yes hv)
  have hk := Lib.hid (kindsL_yes (k := 3) hv)
  have hm' := hr.hm'
  have HR := Lib.hid (hr.next b0)
  have HR0 := Lib.hid hr
  clear b0 k0 hW o0 hX hY hv hr
  go_enter Try.func57, Try.ntmps57
  go_wp2
  go_step3
  go_wp2_with (fail)
  rw [HW.out]
  refine (skind3_any m e _ _ la ca lb cb X Y W HX.out HY.out hla hlb hca hcb).mono ?_
  rintro e1 w1 ⟨v, rfl, ho, hb1⟩
  obtain ⟨A1, len, q1, rfl, ow1, n1, n2⟩ := ho
  obtain ⟨L, hL⟩ : ∃ L, selTo m (kindB m (tabOf Y) e 3) m = L := ⟨_, rfl⟩
  have HLI := Lib.hid (show Ints w1 w1.heap.size A1 len (finI L) by have := ow1.ints; rwa [hk.out, hL] at this)
  have HLN := Lib.hid (show L.length = len by rw [← HLI.out.1, finI_len])
  have HL := Lib.hid hL
  have len16 : len ≤ 16 := by rw [← HLN.out, ← hL]; exact Nat.le_trans (selTo_len m) hm'
  have B1 := Lib.hid (below_step B0.out hb1)
  have K1 := Lib.hid (K0.out.next hb1)
  have R1 := Lib.hid (HR.out.next hb1)
  have O1 := Lib.hid (own_nextK O0.out hb1)
  have OL1 := Lib.hid (show Own w1 (w.heap.size + 2) A1 len (finI L) by
    have := ow1; rw [hk.out, hL] at this
    exact this.down (by rw [← HW.out]; simp))
  have s1 := hb1.size
  obtain ⟨gU, hgU⟩ : ∃ g, w.heap.size + 1 = g := ⟨_, rfl⟩
  have hgW : gU < w1.heap.size := by have := congrArg (fun w : World => w.heap.size) HW.out; simp at this; omega
  rw [hgU] at O1
  rw [show w.heap.size + 2 = gU + 1 by omega] at OL1
  rw [hgU]
  clear hb1 ow1 c0 c1 c2 c3 hL
  go_wp2
  go_step3
  go_wp2
  go_loopg [3, 14] len (fun g vs vi wr => ∃ k : Nat, k ≤ len ∧ len ≤ k + g ∧ vi = .int .i64 k ∧ wr.ownsRow w.heap.size 3 1 vs ((L.take k).filter (fun x => primT m (tabOf Y) e x.1)).length (finV ((L.take k).filter (fun x => primT m (tabOf Y) e x.1))) ∧ Below w.heap.size w wr ∧ w1.heap.size ≤ wr.heap.size ∧ (∀ k, k < w1.heap.size → k ≠ gU → wr.heap[k]? = w1.heap[k]?) ∧ ∀ g, vs.ownBlock = some g → g = gU ∨ w1.heap.size ≤ g)
  case atStart => exact ⟨0, Nat.zero_le _, by omega, rfl, O1.out, B1.out, Nat.le_refl _, fun _ _ _ => rfl, fun g e => .inl (by simp only [Value.ownBlock, Option.some.injEq] at e; exact e.symm)⟩
  case round =>
    obtain ⟨k, hk, hg, rfl, hown, hb, hsw, hkp, hat⟩ := hrel
    obtain ⟨wo, rfl⟩ : ∃ x, x = wr := ⟨_, rfl⟩
    have hsz := hb.size
    have OW := Lib.hid hown
    have BW := Lib.hid hb
    have KW := Lib.hid (show Blk wo w.heap.size 27 #[.int .i64 m, .int .i64 e, .slice (some ⟨b1, o1, none⟩) la ca, .slice (some ⟨b2, o2, none⟩) lb cb] from (hkp _ (by omega) (by omega)).trans K1.out)
    have HLW := Lib.hid (OL1.out.keepX hsw (fun g h1 h2 => hkp g h2 (by omega))).ints
    have HKP := Lib.hid hkp
    have HAT := Lib.hid hat
    clear hown hb hkp hat
    have hln : ((L.take k).filter (fun x => primT m (tabOf Y) e x.1)).length ≤ 16 := by
      refine Nat.le_trans (List.length_filter_le _ _) ?_
      rw [List.length_take]; omega
    by_cases hlt : k < len
    · have hkL : k < L.length := by rw [HLN.out]; exact hlt
      obtain ⟨b, off, rfl, hb1, hc⟩ := HLW.out.at_ hlt
      have htk : L.take (k + 1) = L.take k ++ [L[k]] := by rw [List.take_succ_eq_append_getElem hkL]
      have hmem : L[k] ∈ L := List.getElem_mem hkL
      rw [finI_get_val hkL] at hc
      obtain ⟨x, hx⟩ : ∃ x, L[k] = x := ⟨_, rfl⟩
      rw [hx] at hc htk hmem
      have hck : wo.cell? ⟨b, off + k, none⟩ = some (.int .i64 (x.1 : Int)) := hc
      obtain ⟨j, hj⟩ : ∃ j, x.1 = j := ⟨_, rfl⟩
      have hjm : j < m := hj ▸ x.2
      have HJL := Lib.hid (show j ∈ finN L from hj ▸ List.mem_map_of_mem hmem)
      rw [hj] at hck
      have HJ := Lib.hid hj
      have HTK := Lib.hid htk
      have HC := Lib.hid hc
      clear hc hx htk hj
      have skip : primT m (tabOf Y) e j = false → ((L.take (k + 1)).filter fun x => primT m (tabOf Y) e x.1) = (L.take k).filter fun x => primT m (tabOf Y) e x.1 := fun h => by
        rw [HTK.out, List.filter_append]; simp [HJ.out, h]
      have keep : primT m (tabOf Y) e j = true → ((L.take (k + 1)).filter fun x => primT m (tabOf Y) e x.1) = (L.take k).filter (fun x => primT m (tabOf Y) e x.1) ++ [x] := fun h => by
        rw [HTK.out, List.filter_append]; simp [HJ.out, h]
      have SK := Lib.hid skip
      have KP := Lib.hid keep
      clear skip keep
      go_wp2
      go_loopg [20] len (fun g2 vi wr2 => ∃ y : Nat, y ≤ len ∧ len ≤ y + g2 ∧ vi = .int .i64 y ∧ (∀ u ∈ (finN L).take y, j ≠ 0 ∧ hitB m (tabOf Y) j u = false) ∧ Below wo.heap.size wo wr2)
      case atStart => exact ⟨0, Nat.zero_le _, by omega, rfl, fun u hu => by simp at hu, Below.refl _ _⟩
      case round =>
        obtain ⟨y, hy, hg2, rfl, hall, hb2⟩ := hrel
        have BX := Lib.hid hb2
        have sx := hb2.size
        have KX := Lib.hid (KW.out.next hb2)
        have OX := Lib.hid (own_nextK OW.out hb2)
        have BY := Lib.hid (below_step BW.out hb2)
        have HALL := Lib.hid hall
        have hsz2 := BY.out.size
        obtain ⟨c0, c1, c2, c3⟩ := blk4 KX.out
        clear hb2 hall hck
        by_cases hlt2 : y < len
        · have hyL : y < L.length := by rw [HLN.out]; exact hlt2
          obtain ⟨b', off', e', hb1', hc'⟩ := HLW.out.at_ hlt2
          simp only [Option.some.injEq, Addr.mk.injEq, and_true] at e'
          obtain ⟨rfl, rfl⟩ := e'
          obtain ⟨u, hu, hu1, hu2⟩ := finI_get (l := L) (k := y) hyL
          have hck' : wr.cell? ⟨b, off + y, none⟩ = some (.int .i64 (u : Int)) := by
            rw [BX.out.cell (p := ⟨b, off + y, none⟩) hb1', hc', hu1]
          have HU2 := Lib.hid hu2
          have HUL := Lib.hid (show u ∈ finN L by
            have h2 : u ∈ (finN L).take (y + 1) := by rw [hu2]; simp
            exact List.mem_of_mem_take h2)
          have NX := Lib.hid (show j ≠ 0 → hitB m (tabOf Y) j u = false → ∀ u' ∈ (finN L).take (y + 1), j ≠ 0 ∧ hitB m (tabOf Y) j u' = false from fun h0 h u' hu' => by
            rw [HU2.out, List.mem_append, List.mem_singleton] at hu'
            rcases hu' with h1 | rfl
            · exact HALL.out u' h1
            · exact ⟨h0, h⟩)
          clear hc' hu1 hu2
          by_cases hj0 : j = 0
          · subst hj0
            have HQ := Lib.hid (SK.out primT_zero)
            go_wp2
            go_roundg (len - (k + 1))
            case measure => omega
            case rel => exact ⟨k + 1, by omega, by omega, by go_num, by rw [HQ.out]; exact OX.out, BY.out, Nat.le_trans hsw BX.out.size, fun k hk hkU => (BX.out.block k (by omega)).trans (HKP.out k hk hkU), HAT.out⟩
          · have t0 : ((j : Int) == 0) = false := by rw [beq_eq_false_iff_ne]; omega
            by_cases hu0 : u = 0
            · subst hu0
              have HH := Lib.hid (NX.out hj0 (phit_no (.inl rfl)))
              go_wp2
              go_roundg (len - (y + 1))
              case measure => omega
              case rel => exact ⟨y + 1, by omega, by omega, by go_num, HH.out, BX.out⟩
            · have t1 : ((u : Int) == 0) = false := by rw [beq_eq_false_iff_ne]; omega
              have t1' : ((u : Int) != 0) = true := by rw [bne_iff_ne]; omega
              by_cases huj : u = j
              · subst huj
                have HH := Lib.hid (NX.out hj0 (phit_no (.inr (.inl rfl))))
                go_wp2
                go_roundg (len - (y + 1))
                case measure => omega
                case rel => exact ⟨y + 1, by omega, by omega, by go_num, HH.out, BX.out⟩
              · have t2 : ((u : Int) == (j : Int)) = false := by rw [beq_eq_false_iff_ne]; omega
                have t2' : ((u : Int) != (j : Int)) = true := by rw [bne_iff_ne]; omega
                have RX := Lib.hid (HR0.out.next BY.out)
                obtain ⟨v, hv⟩ : ∃ v, tabOf Y (j * m + u) = v := ⟨_, rfl⟩
                have HV := Lib.hid hv
                have PC := Lib.hid (l1Mul_any j u m e b1 o1 la ca b2 o2 lb cb (tabOf X) (tabOf Y) _ RX.out hjm hu)
                rw [hv] at PC
                clear hv
                by_cases hvu : v = u
                · subst hvu
                  have HQ := Lib.hid (SK.out (primT_hit (by rw [HL.out]; exact HUL.out) (phit_yes hu0 huj HV.out)))
                  go_wp2_with (go_at_call 67; refine PC.out.mono ?_; rintro e3 w3 ⟨rfl, hb3⟩; have B3 := Lib.hid (below_step BY.out hb3); have O3 := Lib.hid (own_nextK OX.out hb3); have s3 := hb3.size; have C3 := Lib.hid hb3; clear hb3)
                  go_roundg (len - (k + 1))
                  case measure => omega
                  case rel => exact ⟨k + 1, by omega, by omega, by go_num, by rw [HQ.out]; exact O3.out, B3.out, Nat.le_trans hsw (Nat.le_trans BX.out.size s3), fun k hk hkU => (C3.out.block k (by omega)).trans ((BX.out.block k (by omega)).trans (HKP.out k hk hkU)), HAT.out⟩
                · have t3 : ((v : Int) == (u : Int)) = false := by rw [beq_eq_false_iff_ne]; omega
                  have HH := Lib.hid (NX.out hj0 (phit_no (.inr (.inr (by rw [HV.out]; exact hvu)))))
                  go_wp2_with (go_at_call 67; refine PC.out.mono ?_; rintro e3 w3 ⟨rfl, hb3⟩; have B3 := Lib.hid (below_step BX.out hb3); clear hb3)
                  go_roundg (len - (y + 1))
                  case measure => omega
                  case rel => exact ⟨y + 1, by omega, by omega, by go_num, HH.out, B3.out⟩
        · have hym : y = len := by omega
          subst hym
          have hlast : ∀ f ∈ finN L, j ≠ 0 ∧ hitB m (tabOf Y) j f = false := fun f hf => HALL.out f (by rw [List.take_of_length_le (by simp [finN, HLN.out])]; exact hf)
          have HQ := Lib.hid (KP.out (primT_yes (hlast j HJL.out).1 (by
            rw [HL.out]
            intro f hf
            exact (hlast f hf).2)))
          have wr3 : Below wr.heap.size wr (wr.alloc (.cells #[.int .i64 (j : Int)] 3)) := (Below.refl _ _).alloc (Nat.le_refl _) _
          clear c0 c1 c2 c3
          go_wp2_with (at_builtin; refine wpList_append_own_at _ rfl _ _ 22 rfl w.heap.size 3 i0 (.int .i64 0) 1 8 Try.underlying22 hi hz0 hz1 hz2 rfl (by decide) _ _ _ rfl (OX.out.alloc _) ⟨wr.heap.size, 0, none⟩ 1 1 [.int .i64 (j : Int)] rfl rfl (by intro i u hi; match i, hi with | 0, hi => simp at hi; subst hi; simp [Addr.add]) (by intro u hu; simp at hu; subst hu; rfl) (by unfold maxLen; omega) (by omega) (by simp; omega) ?_; intro v5 w5 hown5 hg5 _ hl5; have HG5 := Lib.hid hg5; have HL5 := Lib.hid hl5; have B5 := Lib.hid ((BY.out.trans (wr3.mono hsz2)).grown hg5 (Nat.le_trans hsz2 wr3.size) (fun k hk => (OX.out.lt k hk).1)); have O5 := Lib.hid (show w5.ownsRow w.heap.size 3 1 v5 ((L.take (k + 1)).filter fun x => primT m (tabOf Y) e x.1).length (finV ((L.take (k + 1)).filter fun x => primT m (tabOf Y) e x.1)) by rw [HQ.out]; simpa [finV, HJ.out] using hown5); clear hown5 hg5 hl5)
          go_roundg (y - (k + 1))
          case measure => omega
          case rel =>
              have sz5 := HG5.out.size
              rw [World.size_alloc] at sz5
              refine ⟨k + 1, by omega, by omega, by go_num, O5.out, B5.out, by omega, fun k hk hkU => ?_, fun g e => ?_⟩
              · rw [HG5.out.block k (by rw [World.size_alloc]; omega) (fun e => by rcases HAT.out k e.symm with h | h <;> omega), Below.heap_alloc wr _ k (by omega), BX.out.block k (by omega), HKP.out k hk hkU]
              · rcases HL5.out with h | h
                · exact HAT.out g (h ▸ e)
                · rw [e] at h
                  simp only [World.size_alloc, Option.some.injEq] at h
                  omega
    · have hkm : k = len := by omega
      subst hkm
      have HTK := Lib.hid (show L.take k = L from List.take_of_length_le (by rw [HLN.out]; exact Nat.le_refl _))
      go_wp2
      try rw [Exit.noGoto_ret]
      go_ret
      refine ⟨_, by rfl, ?_, BW.out⟩
      have := OW.out
      rw [HTK.out] at this hln
      rw [hz.out, HL.out]
      exact sel_out this rfl hln

set_option maxHeartbeats 4000000 in
theorem sprim_any (n o : Int) (A B : Option Addr) (la ca lb cb : Nat) (X Y : List Int) (w : World) (hX : Ints w w.heap.size A la X) (hY : Ints w w.heap.size B lb Y) (hla : la ≤ 9223372036854775807) (hlb : lb ≤ 9223372036854775807) (hca : la ≤ ca) (hcb : lb ≤ cb) :
    Calls Try.prog 15 #[.agg #[.int .i64 n, .int .i64 o, .slice A la ca, .slice B lb cb]] w fun e' w' => ∃ v, e' = .returned v ∧ SliceOut w.heap.size w' v (primL n o X Y) ∧ Below w.heap.size w w' := by
  obtain ⟨W, hW⟩ : ∃ W, w.alloc (.cells #[.int .i64 n, .int .i64 o, .slice A la ca, .slice B lb cb] 27) = W := ⟨_, rfl⟩
  have k0 : Blk W w.heap.size 27 #[.int .i64 n, .int .i64 o, .slice A la ca, .slice B lb cb] := by
    subst hW; exact Blk.new w _ _
  have b0 : Below w.heap.size w W := by
    subst hW; exact (Below.refl _ _).alloc (Nat.le_refl _) _
  obtain ⟨c0, c1, c2, c3⟩ := blk4 k0
  have HX := Lib.hid (hX.next b0)
  have HY := Lib.hid (hY.next b0)
  have K0 := Lib.hid k0
  have B0 := Lib.hid b0
  have HW := Lib.hid hW
  clear k0 hW
  cases hv : validB n o X Y
  · have hz := Lib.hid (primL_no (n := n) (o := o) (X := X) (Y := Y) (by rw [hv]; simp))
    have HV := Lib.hid hv
    clear hX hY b0 hv
    go_enter Try.func15, Try.ntmps15
    go_wp2_with (fail)
    rw [HW.out]
    refine (specValid_any n o A B la ca lb cb X Y W HX.out HY.out hla hlb hca hcb).mono ?_
    rw [HV.out]
    rintro e1 w1 ⟨rfl, hb1⟩
    have B1 := Lib.hid (below_step B0.out hb1)
    have sz1 := B1.out.size
    have O1 := Lib.hid (show (w1.alloc (.cells #[] 3)).ownsRow w.heap.size 3 1 (.slice (some ⟨w1.heap.size, 0, none⟩) 0 0) 0 [] by
      have := own_lit_K (w := w1) (base := w.heap.size) (e := 3) [] sz1 (by unfold maxLen; simp)
      simpa using this)
    clear hb1 c0 c1 c2 c3
    go_wp2
    go_ret
    exact ⟨_, rfl, by rw [hz.out]; exact SliceOut.of_row (n := 0) O1.out rfl (by omega), B1.out.alloc sz1 _⟩
  · obtain ⟨m, e, b1, o1, b2, o2, rfl, rfl, rfl, rfl, hr, _, _, _, _, _⟩ := valid_data hv hX hY hca hcb
    have HR := Lib.hid (hr.next b0)
    have HV := Lib.hid hv
    clear hX hY b0 hv hr
    go_enter Try.func15, Try.ntmps15
    go_wp2_with (fail)
    rw [HW.out]
    refine (specValid_any m e _ _ la ca lb cb X Y W HX.out HY.out hla hlb hca hcb).mono ?_
    rw [HV.out]
    rintro e1 w1 ⟨rfl, hb1⟩
    have B1 := Lib.hid (below_step B0.out hb1)
    obtain ⟨d0, d1, d2, d3⟩ := blk4 (K0.out.next hb1)
    have sz1 := B1.out.size
    have R1 := Lib.hid (HR.out.next hb1)
    have X1 := Lib.hid (HX.out.next hb1)
    have Y1 := Lib.hid (HY.out.next hb1)
    clear hb1 c0 c1 c2 c3
    go_wp2_with (fail)
    refine (l7prim_any X Y m e b1 o1 la ca b2 o2 lb cb (tabOf X) (tabOf Y) w1 R1.out HV.out rfl rfl X1.out Y1.out hla hlb hca hcb).mono ?_
    rintro e2 w2 ⟨v, rfl, ho, hb2⟩
    have HO := Lib.hid ho
    have B2 := Lib.hid (below_step B1.out hb2)
    clear ho hb2 d0 d1 d2 d3
    go_wp2
    go_ret
    exact ⟨v, rfl, HO.out.down sz1, B2.out⟩

end Go.Proofs.Ytlbgldehchakaaa
