
import Derived.Test.YtlbgldehchakaaaMO
import Derived.WalkMore
/- PrimitivesOf of both sides: the idempotents that are no sums of others. -/
namespace Go.Proofs.Ytlbgldehchakaaa
open Go.RowKit Go.Shelf
set_option maxRecDepth 100000

/-- An idempotent lies within another one. -/
def hitB (m : Nat) (P : Nat → Nat) (j f : Nat) : Bool := decide (f ≠ 0 ∧ f ≠ j ∧ P (j * m + f) = f)
def primT (m : Nat) (P : Nat → Nat) (e j : Nat) : Bool := decide (j ≠ 0) && (finN (selTo m (kindB m P e 3) m)).all (fun f => !hitB m P j f)
noncomputable def primL (n o : Int) (X Y : List Int) : List Int := @ite _ (validB n o X Y = true) (Classical.propDecidable _) (finI ((selTo n.toNat (kindB n.toNat (tabOf Y) o.toNat 3) n.toNat).filter fun x => primT n.toNat (tabOf Y) o.toNat x.1)) []
theorem primL_no {n o : Int} {X Y : List Int} (h : ¬ validB n o X Y = true) : primL n o X Y = [] := @if_neg _ (Classical.propDecidable _) h _ _ _
theorem primL_yes {m e : Nat} {X Y : List Int} (h : validB m e X Y = true) : primL m e X Y = finI ((selTo m (kindB m (tabOf Y) e 3) m).filter fun x => primT m (tabOf Y) e x.1) := @if_pos _ (Classical.propDecidable _) h _ _ _
theorem phit_no {m j f : Nat} {P : Nat → Nat} (h : f = 0 ∨ f = j ∨ P (j * m + f) ≠ f) : hitB m P j f = false := decide_eq_false fun ⟨h1, h2, h3⟩ => by
  rcases h with h | h | h
  · exact h1 h
  · exact h2 h
  · exact h h3
theorem phit_yes {m j f : Nat} {P : Nat → Nat} (h1 : f ≠ 0) (h2 : f ≠ j) (h3 : P (j * m + f) = f) : hitB m P j f = true := decide_eq_true ⟨h1, h2, h3⟩
theorem primT_zero {m e : Nat} {P : Nat → Nat} : primT m P e 0 = false := rfl
theorem primT_hit {m e j f : Nat} {P : Nat → Nat} (hf : f ∈ finN (selTo m (kindB m P e 3) m)) (h : hitB m P j f = true) : primT m P e j = false := by
  unfold primT
  rw [List.all_eq_false.2 ⟨f, hf, by rw [h]; simp⟩]
  simp
theorem primT_yes {m e j : Nat} {P : Nat → Nat} (hj : j ≠ 0) (h : ∀ f ∈ finN (selTo m (kindB m P e 3) m), hitB m P j f = false) : primT m P e j = true := by
  unfold primT
  rw [List.all_eq_true.2 fun f hf => by rw [h f hf]; rfl]
  simp [hj]

set_option maxHeartbeats 8000000 in
theorem prim_any (n o : Int) (A B : Option Addr) (la ca lb cb : Nat) (X Y : List Int) (w : World) (hX : Ints w w.heap.size A la X) (hY : Ints w w.heap.size B lb Y) (hla : la ≤ 9223372036854775807) (hlb : lb ≤ 9223372036854775807) (hca : la ≤ ca) (hcb : lb ≤ cb) :
    Calls Try.prog 17 #[.agg #[.int .i64 n, .int .i64 o, .slice A la ca, .slice B lb cb]] w fun e' w' => ∃ v, e' = .returned v ∧ SliceOut w.heap.size w' v (primL n o X Y) ∧ Below w.heap.size w w' := by
  obtain ⟨i0, hi, hz0, hz1, hz2⟩ := info_parts int_info
  obtain ⟨W, hW⟩ : ∃ W, w.alloc (.cells #[.int .i64 n, .int .i64 o, .slice A la ca, .slice B lb cb] 27) = W := ⟨_, rfl⟩
  have k0 : Blk W w.heap.size 27 #[.int .i64 n, .int .i64 o, .slice A la ca, .slice B lb cb] := by
    subst hW; exact Blk.new w _ _
  have b0 : Below w.heap.size w W := by
    subst hW; exact (Below.refl _ _).alloc (Nat.le_refl _) _
  obtain ⟨c0, c1, c2, c3⟩ := blk4 k0
  have HX := Lib.hid (hX.next b0)
  have HY := Lib.hid (hY.next b0)
  have K0 := Lib.hid k0
  have B0 := Lib.hid b0
  have HW := Lib.hid hW
  have hs0 := k0.lt
  clear b0 k0 hW
  cases hv : validB n o X Y
  · have hz := Lib.hid (primL_no (n := n) (o := o) (X := X) (Y := Y) (by rw [hv]; simp))
    have hk := Lib.hid (kindsL_no (n := n) (o := o) (X := X) (Y := Y) (k := 3) (by rw [hv]; simp))
    clear hX hY hv
    go_enter Try.func17, Try.ntmps17
    go_wp2
    go_step3
    go_wp2_with (fail)
    rw [HW.out]
    refine (kind3_any n o A B la ca lb cb X Y W HX.out HY.out hla hlb hca hcb).mono ?_
    rintro e1 w1 ⟨v, rfl, ho, hb1⟩
    obtain ⟨A1, l1, q1, rfl, o1, n1, n2⟩ := ho
    obtain rfl : l1 = 0 := (by have := o1.1; rw [hk.out] at this; simpa using this.symm)
    have B1 := Lib.hid (below_step B0.out hb1)
    clear hb1 o1 c0 c1 c2 c3
    go_wp2
    go_step3
    go_wp2
    go_loopg [3, 13] 0 (fun g2 vs vi wr => g2 = 0 ∧ vs = .slice none 0 0 ∧ vi = .int .i64 0 ∧ wr = w1)
    case atStart => exact ⟨rfl, rfl, rfl, rfl⟩
    case round =>
      obtain ⟨_, rfl, rfl, rfl⟩ := hrel
      go_wp2
      try rw [Exit.noGoto_ret]
      go_ret
      exact ⟨_, by rfl, by rw [hz.out]; exact SliceOut.nil, B1.out⟩
  · obtain ⟨m, e, b1, o1, b2, o2, rfl, rfl, rfl, rfl, hr, _, _, _, _, _⟩ := valid_data hv hX hY hca hcb
    have hz := Lib.hid (primL_yes hv)
    have hk := Lib.hid (kindsL_yes (k := 3) hv)
    have hm' := hr.hm'
    have HR := Lib.hid (hr.next B0.out)
    clear hX hY hv hr
    go_enter Try.func17, Try.ntmps17
    go_wp2
    go_step3
    go_wp2_with (fail)
    rw [HW.out]
    refine (kind3_any m e _ _ la ca lb cb X Y W HX.out HY.out hla hlb hca hcb).mono ?_
    rintro e1 w1 ⟨v, rfl, ho, hb1⟩
    obtain ⟨A1, len, q1, rfl, ow1, n1, n2⟩ := ho
    obtain ⟨L, hL⟩ : ∃ L, selTo m (kindB m (tabOf Y) e 3) m = L := ⟨_, rfl⟩
    have HLI := Lib.hid (show Ints w1 w1.heap.size A1 len (finI L) by have := ow1.ints; rwa [hk.out, hL] at this)
    have HLN := Lib.hid (show L.length = len by rw [← HLI.out.1, finI_len])
    have HL := Lib.hid hL
    have len16 : len ≤ 16 := by rw [← HLN.out, ← hL]; exact Nat.le_trans (selTo_len m) hm'
    have B1 := Lib.hid (below_step B0.out hb1)
    have K1 := Lib.hid (K0.out.next hb1)
    have R1 := Lib.hid (HR.out.next hb1)
    have s1 := hb1.size
    clear hb1 ow1 c0 c1 c2 c3 hL
    go_wp2
    go_step3
    go_wp2
    go_loopg [3, 13] len (fun g vs vi wr => ∃ k : Nat, k ≤ len ∧ len ≤ k + g ∧ vi = .int .i64 k ∧ wr.ownsRow w1.heap.size 3 1 vs ((L.take k).filter (fun x => primT m (tabOf Y) e x.1)).length (finV ((L.take k).filter (fun x => primT m (tabOf Y) e x.1))) ∧ Below w1.heap.size w1 wr)
    case atStart => exact ⟨0, Nat.zero_le _, by omega, rfl, ⟨by simp, .inl ⟨rfl, rfl⟩⟩, Below.refl _ _⟩
    case round =>
      obtain ⟨k, hk, hg, rfl, hown, hb⟩ := hrel
      obtain ⟨wo, rfl⟩ : ∃ x, x = wr := ⟨_, rfl⟩
      have hsz := hb.size
      have OW := Lib.hid hown
      have BW := Lib.hid hb
      have KW := Lib.hid (K1.out.next hb)
      clear hown hb
      have hln : ((L.take k).filter (fun x => primT m (tabOf Y) e x.1)).length ≤ 16 := by
        refine Nat.le_trans (List.length_filter_le _ _) ?_
        rw [List.length_take]; omega
      by_cases hlt : k < len
      · have hkL : k < L.length := by rw [HLN.out]; exact hlt
        obtain ⟨b, off, rfl, hb1, hc⟩ := HLI.out.at_ hlt
        have htk : L.take (k + 1) = L.take k ++ [L[k]] := by rw [List.take_succ_eq_append_getElem hkL]
        have hmem : L[k] ∈ L := List.getElem_mem hkL
        rw [finI_get_val hkL] at hc
        obtain ⟨x, hx⟩ : ∃ x, L[k] = x := ⟨_, rfl⟩
        rw [hx] at hc htk hmem
        have hck : wo.cell? ⟨b, off + k, none⟩ = some (.int .i64 (x.1 : Int)) := (BW.out.cell (p := ⟨b, off + k, none⟩) hb1).trans hc
        obtain ⟨j, hj⟩ : ∃ j, x.1 = j := ⟨_, rfl⟩
        have hjm : j < m := hj ▸ x.2
        rw [hj] at hck
        have HJ := Lib.hid hj
        have HTK := Lib.hid htk
        have HC := Lib.hid hc
        clear hc hx htk hj
        have skip : primT m (tabOf Y) e j = false → ((L.take (k + 1)).filter fun x => primT m (tabOf Y) e x.1) = (L.take k).filter fun x => primT m (tabOf Y) e x.1 := fun h => by
          rw [HTK.out, List.filter_append]; simp [HJ.out, h]
        have keep : primT m (tabOf Y) e j = true → ((L.take (k + 1)).filter fun x => primT m (tabOf Y) e x.1) = (L.take k).filter (fun x => primT m (tabOf Y) e x.1) ++ [x] := fun h => by
          rw [HTK.out, List.filter_append]; simp [HJ.out, h]
        have SK := Lib.hid skip
        have KP := Lib.hid keep
        clear skip keep
        by_cases hj0 : j = 0
        · subst hj0
          have HQ := Lib.hid (SK.out primT_zero)
          go_wp2
          go_roundg (len - (k + 1))
          case measure => omega
          case rel => exact ⟨k + 1, by omega, by omega, by go_num, by rw [HQ.out]; exact OW.out, BW.out⟩
        · have t0 : ((j : Int) == 0) = false := by rw [beq_eq_false_iff_ne]; omega
          go_wp2
          go_loopg [21] len (fun g2 vi wr2 => ∃ y : Nat, y ≤ len ∧ len ≤ y + g2 ∧ vi = .int .i64 y ∧ (∀ u ∈ (finN L).take y, hitB m (tabOf Y) j u = false) ∧ Below wo.heap.size wo wr2)
          case atStart => exact ⟨0, Nat.zero_le _, by omega, rfl, fun u hu => by simp at hu, Below.refl _ _⟩
          case round =>
            obtain ⟨y, hy, hg2, rfl, hall, hb2⟩ := hrel
            have BX := Lib.hid hb2
            have KX := Lib.hid (KW.out.next hb2)
            have OX := Lib.hid (own_nextK OW.out hb2)
            have BY := Lib.hid (below_step BW.out hb2)
            have HALL := Lib.hid hall
            have hsz2 := BY.out.size
            obtain ⟨c0, c1, c2, c3⟩ := blk4 KX.out
            clear hb2 hall hck
            by_cases hlt2 : y < len
            · have hyL : y < L.length := by rw [HLN.out]; exact hlt2
              obtain ⟨b', off', e', hb1', hc'⟩ := HLI.out.at_ hlt2
              simp only [Option.some.injEq, Addr.mk.injEq, and_true] at e'
              obtain ⟨rfl, rfl⟩ := e'
              obtain ⟨u, hu, hu1, hu2⟩ := finI_get (l := L) (k := y) hyL
              have hck' : wr.cell? ⟨b, off + y, none⟩ = some (.int .i64 (u : Int)) := by
                rw [BY.out.cell (p := ⟨b, off + y, none⟩) hb1', hc', hu1]
              have HU2 := Lib.hid hu2
              have HUL := Lib.hid (show u ∈ finN L by
                have h2 : u ∈ (finN L).take (y + 1) := by rw [hu2]; simp
                exact List.mem_of_mem_take h2)
              have NX := Lib.hid (show hitB m (tabOf Y) j u = false → ∀ u' ∈ (finN L).take (y + 1), hitB m (tabOf Y) j u' = false from fun h u' hu' => by
                rw [HU2.out, List.mem_append, List.mem_singleton] at hu'
                rcases hu' with h1 | rfl
                · exact HALL.out u' h1
                · exact h)
              clear hc' hu1 hu2
              by_cases hu0 : u = 0
              · subst hu0
                have HH := Lib.hid (NX.out (phit_no (.inl rfl)))
                go_wp2
                go_roundg (len - (y + 1))
                case measure => omega
                case rel => exact ⟨y + 1, by omega, by omega, by go_num, HH.out, BX.out⟩
              · have t1 : ((u : Int) == 0) = false := by rw [beq_eq_false_iff_ne]; omega
                have t1' : ((u : Int) != 0) = true := by rw [bne_iff_ne]; omega
                by_cases huj : u = j
                · subst huj
                  have HH := Lib.hid (NX.out (phit_no (.inr (.inl rfl))))
                  go_wp2
                  go_roundg (len - (y + 1))
                  case measure => omega
                  case rel => exact ⟨y + 1, by omega, by omega, by go_num, HH.out, BX.out⟩
                · have t2 : ((u : Int) == (j : Int)) = false := by rw [beq_eq_false_iff_ne]; omega
                  have t2' : ((u : Int) != (j : Int)) = true := by rw [bne_iff_ne]; omega
                  have RX := Lib.hid (R1.out.next BY.out)
                  obtain ⟨v, hv⟩ : ∃ v, tabOf Y (j * m + u) = v := ⟨_, rfl⟩
                  have HV := Lib.hid hv
                  have PC := Lib.hid (product_any j u m e b1 o1 la ca b2 o2 lb cb (tabOf X) (tabOf Y) _ RX.out hjm hu)
                  rw [hv] at PC
                  clear hv
                  by_cases hvu : v = u
                  · subst hvu
                    have HQ := Lib.hid (SK.out (primT_hit (by rw [HL.out]; exact HUL.out) (phit_yes hu0 huj HV.out)))
                    go_wp2_with (go_at_call 59; refine PC.out.mono ?_; rintro e3 w3 ⟨rfl, hb3⟩; have B3 := Lib.hid (below_step BY.out hb3); have O3 := Lib.hid (own_nextK OX.out hb3); clear hb3)
                    go_roundg (len - (k + 1))
                    case measure => omega
                    case rel => exact ⟨k + 1, by omega, by omega, by go_num, by rw [HQ.out]; exact O3.out, B3.out⟩
                  · have t3 : ((v : Int) == (u : Int)) = false := by rw [beq_eq_false_iff_ne]; omega
                    have HH := Lib.hid (NX.out (phit_no (.inr (.inr (by rw [HV.out]; exact hvu)))))
                    go_wp2_with (go_at_call 59; refine PC.out.mono ?_; rintro e3 w3 ⟨rfl, hb3⟩; have B3 := Lib.hid (below_step BX.out hb3); clear hb3)
                    go_roundg (len - (y + 1))
                    case measure => omega
                    case rel => exact ⟨y + 1, by omega, by omega, by go_num, HH.out, B3.out⟩
            · have hym : y = len := by omega
              subst hym
              have HQ := Lib.hid (KP.out (primT_yes hj0 (by
                rw [HL.out]
                intro f hf
                exact HALL.out f (by rw [List.take_of_length_le (by simp [finN, HLN.out])]; exact hf))))
              have wr3 : Below wr.heap.size wr (wr.alloc (.cells #[.int .i64 (j : Int)] 3)) := (Below.refl _ _).alloc (Nat.le_refl _) _
              clear c0 c1 c2 c3
              go_wp2_with (at_builtin; refine wpList_append_own _ rfl _ _ 22 rfl w1.heap.size 3 i0 (.int .i64 0) 1 8 Try.underlying22 hi hz0 hz1 hz2 rfl (by decide) _ _ _ rfl (OX.out.alloc _) ⟨wr.heap.size, 0, none⟩ 1 1 [.int .i64 (j : Int)] rfl rfl (by intro i u hi; match i, hi with | 0, hi => simp at hi; subst hi; simp [Addr.add]) (by intro u hu; simp at hu; subst hu; rfl) (by unfold maxLen; omega) (by omega) (by simp; omega) ?_; intro v5 w5 hown5 hg5 _; have B5 := Lib.hid ((BY.out.trans (wr3.mono hsz2)).grown hg5 (Nat.le_trans hsz2 wr3.size) (fun k hk => (OX.out.lt k hk).1)); have O5 := Lib.hid (show w5.ownsRow w1.heap.size 3 1 v5 ((L.take (k + 1)).filter fun x => primT m (tabOf Y) e x.1).length (finV ((L.take (k + 1)).filter fun x => primT m (tabOf Y) e x.1)) by rw [HQ.out]; simpa [finV, HJ.out] using hown5); clear hown5 hg5)
              go_roundg (y - (k + 1))
              case measure => omega
              case rel => exact ⟨k + 1, by omega, by omega, by go_num, O5.out, B5.out⟩
      · have hkm : k = len := by omega
        subst hkm
        have HTK := Lib.hid (show L.take k = L from List.take_of_length_le (by rw [HLN.out]; exact Nat.le_refl _))
        go_wp2
        try rw [Exit.noGoto_ret]
        go_ret
        refine ⟨_, by rfl, ?_, B1.out.trans (BW.out.mono B1.out.size)⟩
        have := OW.out
        rw [HTK.out] at this hln
        rw [hz.out, HL.out]
        exact (sel_out this rfl hln).down B1.out.size

end Go.Proofs.Ytlbgldehchakaaa
