
import Derived.Test.YtdhjcgbaaghnoaaMO
/- AreComaximal of both sides. -/
namespace Go.Proofs.Ytdhjcgbaaghnoaa
open Go.RowKit Go.Shelf
set_option maxRecDepth 100000

/-- Whether the sum of two lists, both ideals, is the whole ring. -/
noncomputable def comB (n o : Int) (X Y L K : List Int) : Bool := twoI n o X Y L K && (((sumL n o X Y L K).length : Int) == n)
theorem com_no {n o : Int} {X Y L K : List Int} (h : twoI n o X Y L K = false) : comB n o X Y L K = false := by unfold comB; rw [h]; rfl
theorem com_yes {n o : Int} {X Y L K : List Int} {l : Nat} {b : Bool} (h : twoI n o X Y L K = true) (hl : (sumL n o X Y L K).length = l) (hb : ((l : Int) == n) = b) : comB n o X Y L K = b := by unfold comB; rw [h, hl, hb]; rfl

set_option maxHeartbeats 4000000 in
theorem com_any (n o : Int) (A B C D : Option Addr) (la ca lb cb len len' cap cap' : Nat) (X Y L K : List Int) (w : World) (hX : Ints w w.heap.size A la X) (hY : Ints w w.heap.size B lb Y) (hL : Ints w w.heap.size C len L) (hK : Ints w w.heap.size D len' K) (hla : la ≤ 9223372036854775807) (hlb : lb ≤ 9223372036854775807) (hlen : len ≤ 9223372036854775807) (hlen' : len' ≤ 9223372036854775807) (hca : la ≤ ca) (hcb : lb ≤ cb) :
    Calls Try.prog 18 #[.agg #[.int .i64 n, .int .i64 o, .slice A la ca, .slice B lb cb], .slice C len cap, .slice D len' cap'] w fun e' w' => e' = .returned (.bool (comB n o X Y L K)) ∧ Below w.heap.size w w' := by
  obtain ⟨W, hW⟩ : ∃ W, w.alloc (.cells #[.int .i64 n, .int .i64 o, .slice A la ca, .slice B lb cb] 27) = W := ⟨_, rfl⟩
  have k0 : Blk W w.heap.size 27 #[.int .i64 n, .int .i64 o, .slice A la ca, .slice B lb cb] := by
    subst hW; exact Blk.new w _ _
  have b0 : Below w.heap.size w W := by
    subst hW; exact (Below.refl _ _).alloc (Nat.le_refl _) _
  obtain ⟨c0, c1, c2, c3⟩ := blk4 k0
  have HX := Lib.hid (hX.next b0)
  have HY := Lib.hid (hY.next b0)
  have HL := Lib.hid (hL.next b0)
  have HK := Lib.hid (hK.next b0)
  have B0 := Lib.hid b0
  have HW := Lib.hid hW
  have K0 := Lib.hid k0
  clear hX hY hL hK b0 hW k0
  cases ht : twoI n o X Y L K
  · have HZ := Lib.hid (com_no ht)
    have HT := Lib.hid ht
    clear ht
    go_enter Try.func18, Try.ntmps18
    go_wp2_with (fail)
    rw [HW.out]
    refine (sumI_any n o A B C D la ca lb cb len len' cap cap' X Y L K W HX.out HY.out HL.out HK.out hla hlb hlen hlen' hca hcb).mono ?_
    rw [HT.out]
    rintro e1 w1 ⟨v, rfl, ⟨A1, l1, c1', rfl, hA1, _, _⟩, hb1⟩
    have K1 := Lib.hid (K0.out.next hb1)
    have B1 := Lib.hid (below_step B0.out hb1)
    clear hb1 hA1 c0 c1 c2 c3
    obtain ⟨c0, c1, c2, c3⟩ := blk4 K1.out
    go_wp2
    go_ret
    exact ⟨by rw [HZ.out]; rfl, B1.out⟩
  · have HT := Lib.hid ht
    clear ht
    go_enter Try.func18, Try.ntmps18
    go_wp2_with (fail)
    rw [HW.out]
    refine (sumI_any n o A B C D la ca lb cb len len' cap cap' X Y L K W HX.out HY.out HL.out HK.out hla hlb hlen hlen' hca hcb).mono ?_
    rw [HT.out]
    rintro e1 w1 ⟨v, rfl, ⟨A1, l1, c1', rfl, hA1, _, hl1⟩, hb1⟩
    have K1 := Lib.hid (K0.out.next hb1)
    have B1 := Lib.hid (below_step B0.out hb1)
    have HE := Lib.hid hA1.1
    clear hb1 hA1 c0 c1 c2 c3
    obtain ⟨c0, c1, c2, c3⟩ := blk4 K1.out
    cases hq : ((l1 : Int) == n)
    · have HZ := Lib.hid (com_yes HT.out HE.out hq)
      go_wp2
      go_ret
      exact ⟨by rw [HZ.out]; rfl, B1.out⟩
    · have HZ := Lib.hid (com_yes HT.out HE.out hq)
      go_wp2
      go_ret
      exact ⟨by rw [HZ.out]; rfl, B1.out⟩

structure CmPhi (D : Nat) (Z : List Int) (i : Nat) (v : Value) (w : World) : Prop where
  p8 : i = 8 → SliceOut D w v Z
structure CmSh (l : Nat) (i : Nat) (v : Value) : Prop where
  p8 : i = 8 → ∃ A c, v = .slice A l c
theorem CmPhi_stable {D : Nat} {Z : List Int} (i : Nat) (v : Value) (w w' : World) (h : CmPhi D Z i v w) (hb : Below w.heap.size w w') : CmPhi D Z i v w' := ⟨fun e => (h.p8 e).next hb⟩
theorem CmSh_of {D : Nat} {Z : List Int} (i : Nat) (v : Value) (w : World) (h : CmPhi D Z i v w) : CmSh Z.length i v :=
  ⟨fun e => by obtain ⟨A, l, c, h1, h2, _⟩ := h.p8 e; exact ⟨A, c, by rw [h1, h2.1]⟩⟩
theorem CmSh_zero {l : Nat} (i : Nat) : CmSh l i (.slice none l 0) := ⟨fun _ => ⟨none, 0, rfl⟩⟩

set_option maxHeartbeats 8000000 in
theorem scom_any (n o : Int) (A B C D : Option Addr) (la ca lb cb len len' cap cap' : Nat) (X Y L K : List Int) (w : World) (hX : Ints w w.heap.size A la X) (hY : Ints w w.heap.size B lb Y) (hL : Ints w w.heap.size C len L) (hK : Ints w w.heap.size D len' K) (hla : la ≤ 9223372036854775807) (hlb : lb ≤ 9223372036854775807) (hlen : len ≤ 9223372036854775807) (hlen' : len' ≤ 9223372036854775807) (hca : la ≤ ca) (hcb : lb ≤ cb) :
    Calls Try.prog 15 #[.agg #[.int .i64 n, .int .i64 o, .slice A la ca, .slice B lb cb], .slice C len cap, .slice D len' cap'] w fun e' w' => e' = .returned (.bool (comB n o X Y L K)) ∧ Below w.heap.size w w' := by
  obtain ⟨W, hW⟩ : ∃ W, w.alloc (.cells #[.int .i64 n, .int .i64 o, .slice A la ca, .slice B lb cb] 27) = W := ⟨_, rfl⟩
  have k0 : Blk W w.heap.size 27 #[.int .i64 n, .int .i64 o, .slice A la ca, .slice B lb cb] := by
    subst hW; exact Blk.new w _ _
  have b0 : Below w.heap.size w W := by
    subst hW; exact (Below.refl _ _).alloc (Nat.le_refl _) _
  obtain ⟨c0, c1, c2, c3⟩ := blk4 k0
  have HX0 := Lib.hid hX
  have HY0 := Lib.hid hY
  have HL0 := Lib.hid hL
  have HK0 := Lib.hid hK
  have B0 := Lib.hid b0
  have HW := Lib.hid hW
  have K0 := Lib.hid k0
  have hs0 := k0.lt
  clear hX hY hL hK b0 hW k0
  cases ht : twoI n o X Y L K
  · have HT := Lib.hid ht
    have HZ := Lib.hid (com_no ht)
    clear ht
    go_enter Try.func15, Try.ntmps15
    go_wp2_with (fail)
    rw [HW.out]
    refine wp_region_ext (by kernel_rfl) (by kernel_rfl) ?_
    repeat (go_big_quiet_step (((go_at_call 57; ((with_reducible refine calls_ext (l4Two_val HT.out (HX0.out.next (below_step B0.out (ext_below _ _))) (HY0.out.next (below_step B0.out (ext_below _ _))) (HL0.out.next (below_step B0.out (ext_below _ _))) (HK0.out.next (below_step B0.out (ext_below _ _))) hla hlb hlen hlen' hca hcb)))))))
    refine wpQuiet_nil ?_
    intro w1 hb1
    have B1 := Lib.hid (below_step B0.out hb1)
    clear hb1
    go_wp2
    go_ret
    exact ⟨by rw [HZ.out]; rfl, B1.out⟩
  · have HT := Lib.hid ht
    have hz := Lib.hid ht
    obtain ⟨m, e, b1, o1, b2, o2, rfl, rfl, rfl, rfl, hr, _, _, _, _, _⟩ := valid_data (ide_data (isId_ide (two_data ht).1)).1 HX0.out HY0.out hca hcb
    obtain ⟨hv, hpI, hpL⟩ := isId_data (two_data ht).1
    have R := rtab_of_valid hv
    obtain ⟨p, hp⟩ : ∃ p, setL L = p := ⟨_, rfl⟩
    rw [hp] at hpL hpI
    have HPP := Lib.hid hp
    have HL1 := Lib.hid (show Ints w w.heap.size C len (finI (selTo m p m)) by rw [show finI (selTo m p m) = L from hpL.symm]; exact HL0.out)
    obtain ⟨_, hqI, hqL⟩ := isId_data (two_data ht).2
    obtain ⟨q, hq⟩ : ∃ q, setL K = q := ⟨_, rfl⟩
    rw [hq] at hqL hqI
    have HQQ := Lib.hid hq
    have HK1 := Lib.hid (show Ints w w.heap.size D len' (finI (selTo m q m)) by rw [show finI (selTo m q m) = K from hqL.symm]; exact HK0.out)
    have hm' := hr.hm'
    have HR0 := Lib.hid hr
    have n1 : 1 ≤ len := by rw [← HL1.out.1, finI_len]; exact sel_pos hpI.z hr.hm
    have n2 : 1 ≤ len' := by rw [← HK1.out.1, finI_len]; exact sel_pos hqI.z hr.hm
    have len16 : len ≤ 1000 := by rw [← HL1.out.1, finI_len]; have := selTo_len (m := m) (p := p) m; omega
    have len16' : len' ≤ 1000 := by rw [← HK1.out.1, finI_len]; have := selTo_len (m := m) (p := q) m; omega
    have HFL := Lib.hid (show sumL m e X Y L K = lstP m (genB m (tabOf X) (tabOf Y) (memB (finN (selTo m p m ++ selTo m q m)))) by
      unfold sumL
      rw [fromL_yes hz.out, Int.toNat_natCast, HPP.out, HQQ.out, finN_app, memB_app, memB_sel hpI.lt, memB_sel hqI.lt, R.gen_sum hpI hqI])
    obtain ⟨ls, hls⟩ : ∃ l, (sumL m e X Y L K).length = l := ⟨_, rfl⟩
    have HLS := Lib.hid hls
    clear hpL hp hr ht hv hpI hqI hqL hq hls
    cases hqq : ((ls : Int) == (m : Int))
    all_goals
      have HZ := Lib.hid (com_yes HT.out HLS.out hqq)
      go_enter Try.func15, Try.ntmps15
      go_wp2_with (fail)
      rw [HW.out]
      have KU := Lib.hid (show ∀ V, Below W.heap.size W V → ∀ u, Below w.heap.size w (ext V u) from fun V hV u => below_step (below_step B0.out hV) (ext_below V u))
      refine wp_region_makersE 14 (fun i => i == 8) (CmPhi w.heap.size (sumL m e X Y L K)) (CmSh ls) (fun _ => .slice none ls 0) probe (by kernel_rfl) (by kernel_rfl) CmPhi_stable (fun i v x _ h => by have := CmSh_of i v x h; rwa [HLS.out] at this) (fun i _ => CmSh_zero i) ?_
      intro V hV vs hvs
      obtain ⟨A8, c8, e8⟩ := (hvs 8 rfl).p8 rfl
      have cW : ∃ x, extC V x := ⟨V, extC_of (Below.refl _ _)⟩
      have KX := Lib.hid (show ∀ x, extC V x → Below w.heap.size w x from fun x ⟨u, hu⟩ => by rw [hu]; exact KU.out V hV u)
      have KV := Lib.hid (K0.out.next hV)
      obtain ⟨f0, f1, f2, f3⟩ := blk4 KV.out
      have KV2 := Lib.hid (KU.out V hV)
      clear hV c0 c1 c2 c3
      simp only [List.take_succ_cons, List.take_zero, List.drop_succ_cons, List.drop_zero]
      refine wpV_quietE cW 8 0 _ _ (by decide) (by decide) ?_
      simp only [List.take_succ_cons, List.take_zero, List.drop_succ_cons, List.drop_zero]
      repeat (go_big_quiet_step ((go_at_call 57; exact calls_ext (l4Two_val HT.out (HX0.out.next (KV2.out _)) (HY0.out.next (KV2.out _)) (HL0.out.next (KV2.out _)) (HK0.out.next (KV2.out _)) hla hlb hlen hlen' hca hcb))))
      refine wpQuiet_nil ?_
      refine wpV_makeE rfl (by first | rfl | simp [Region.wanted, yielded]) (fun x hx _ => ?_) ?_
      · unfold makesAtE
        go_simp
        refine ⟨rfl, (l4Sum_any C D len len' cap cap' m e b1 o1 la ca b2 o2 lb cb (tabOf X) (tabOf Y) x (HR0.out.next (KX.out x hx)) (selTo m p m) (selTo m q m) R (HL1.out.next (KX.out x hx)) (HK1.out.next (KX.out x hx)) n1 n2 len16 len16').mono ?_⟩
        rw [← HFL.out]
        rintro _ x' ⟨v, rfl, ho, hb⟩
        exact ⟨_, rfl, hb, ⟨fun _ => ho.down (KX.out x hx).size⟩, fun b hbb => (by cases hbb)⟩
      rw [e8]
      go_simp
      refine wpV_quietE cW 5 _ _ _ (by decide) (by decide) ?_
      simp only [List.take_succ_cons, List.take_zero, List.drop_succ_cons, List.drop_zero]
      repeat (go_big_quiet_step (fail))
      refine wpQuiet_nil ?_
      refine wpV_nilE ?_
      intro w3 hb3 _ _
      have B2 := Lib.hid (below_step B0.out hb3)
      clear hb3 f0 f1 f2 f3 hvs
      go_wp2
      go_ret
      exact ⟨by rw [HZ.out]; rfl, B2.out⟩

end Go.Proofs.Ytdhjcgbaaghnoaa
