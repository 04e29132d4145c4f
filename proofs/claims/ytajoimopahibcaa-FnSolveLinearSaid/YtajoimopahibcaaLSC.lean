
import Derived.Test.YtajoimopahibcaaMG
import Derived.Test.YtajoimopahibcaaMB
import Derived.Test.YtajoimopahibcaaMN
/- SolveLinear of both sides. -/
namespace Go.Proofs.Ytajoimopahibcaa
open Go.RowKit Go.Shelf
set_option maxRecDepth 100000

/-- Whether the product with a, plus b, is 0. -/
def slnP (m : Nat) (S P : Nat → Nat) (a b x : Nat) : Bool := decide (S (P (a * m + x) * m + b) = 0)
noncomputable def slnL (n o : Int) (X Y : List Int) (a b : Int) : List Int := @ite _ (validB n o X Y = true ∧ inB n a = true ∧ inB n b = true) (Classical.propDecidable _) (finI (selTo n.toNat (slnP n.toNat (tabOf X) (tabOf Y) a.toNat b.toNat) n.toNat)) []
theorem slnL_no {n o a b : Int} {X Y : List Int} (h : ¬ (validB n o X Y = true ∧ inB n a = true ∧ inB n b = true)) : slnL n o X Y a b = [] := @if_neg _ (Classical.propDecidable _) h _ _ _
theorem slnL_yes {m e a b : Nat} {X Y : List Int} (h : validB m e X Y = true) (ha : inB m a = true) (hb : inB m b = true) : slnL m e X Y a b = finI (selTo m (slnP m (tabOf X) (tabOf Y) a b) m) := @if_pos _ (Classical.propDecidable _) ⟨h, ha, hb⟩ _ _ _

set_option maxHeartbeats 2000000 in
theorem slnF_any (Br Ba Bb a b x : Nat) (m e b1 o1 la ca b2 o2 lb cb : Nat) (S P : Nat → Nat) (w : World) (hr : RingAt w m e b1 o1 la ca b2 o2 lb cb S P) (h0 : Blk w Br 25 #[.int .i64 m, .int .i64 e, .slice (some ⟨b1, o1, none⟩) la ca, .slice (some ⟨b2, o2, none⟩) lb cb]) (h1 : Blk w Ba 3 #[.int .i64 (a : Int)]) (h2 : Blk w Bb 3 #[.int .i64 (b : Int)]) (ha : a < m) (hb : b < m) (hx : x < m) :
    Calls Try.prog 26 (#[.int .i64 (x : Int)] ++ #[.pointer (some ⟨Br, 0, none⟩), .pointer (some ⟨Ba, 0, none⟩), .pointer (some ⟨Bb, 0, none⟩)]) w fun e' w' => e' = .returned (.bool (slnP m S P a b x)) ∧ Below w.heap.size w w' := by
  have RW := Lib.hid hr
  have hp := hr.tp.lt ha hx
  have hs := hr.ts.lt hp hb
  obtain ⟨c0, c1, c2, c3⟩ := blk4 h0
  have d0 := h1.cell 0
  have f0 := h2.cell 0
  simp at d0 f0
  cases hq : slnP m S P a b x
  all_goals
    have hq' := hq
    unfold slnP at hq'
    first | (have hq2 := of_decide_eq_false hq'; have t1 : ((S (P (a * m + x) * m + b) : Int) == 0) = false := by rw [beq_eq_false_iff_ne]; omega) | (have hq2 := of_decide_eq_true hq'; have t1 : ((S (P (a * m + x) * m + b) : Int) == 0) = true := by rw [beq_iff_eq]; omega)
    have HQ := Lib.hid hq
    clear hr hq hq' hq2 h0 h1 h2
    go_enter Try.func26, Try.ntmps26
    go_wp2
    refine wp_region_ext (by kernel_rfl) (by kernel_rfl) ?_
    repeat (go_big_quiet_step (((first
      | (go_at_call 28; ((with_reducible refine calls_ext (product_any a x m e b1 o1 la ca b2 o2 lb cb S P _ (RW.out.ext _) ha hx))))
      | (go_at_call 27; ((with_reducible refine calls_ext (sum_any (P (a * m + x)) b m e b1 o1 la ca b2 o2 lb cb S P _ (RW.out.ext _) hp hb))))))))
    refine wpQuiet_nil ?_
    intro w3 hb3
    have B3 := Lib.hid hb3
    clear hb3
    go_wp2
    go_ret
    exact ⟨rfl, B3.out⟩

set_option maxHeartbeats 8000000 in
theorem sln_any (n o : Int) (A B : Option Addr) (la ca lb cb : Nat) (X Y : List Int) (a b : Int) (w : World) (hX : Ints w w.heap.size A la X) (hY : Ints w w.heap.size B lb Y) (hla : la ≤ 9223372036854775807) (hlb : lb ≤ 9223372036854775807) (hca : la ≤ ca) (hcb : lb ≤ cb) :
    Calls Try.prog 6 #[.agg #[.int .i64 n, .int .i64 o, .slice A la ca, .slice B lb cb], .int .i64 a, .int .i64 b] w fun e' w' => ∃ v, e' = .returned v ∧ SliceOut w.heap.size w' v (slnL n o X Y a b) ∧ Below w.heap.size w w' := by
  obtain ⟨s, hs⟩ : ∃ s, w.heap.size = s := ⟨_, rfl⟩
  obtain ⟨W, hW⟩ : ∃ W, ((w.alloc (.cells #[.int .i64 n, .int .i64 o, .slice A la ca, .slice B lb cb] 25)).alloc (.cells #[.int .i64 a] 3)).alloc (.cells #[.int .i64 b] 3) = W := ⟨_, rfl⟩
  have k0 : Blk W s 25 #[.int .i64 n, .int .i64 o, .slice A la ca, .slice B lb cb] := by
    subst hW hs; exact ((Blk.new w _ _).alloc _).alloc _
  have k1 : Blk W (s + 1) 3 #[.int .i64 a] := by
    subst hW hs
    have := (Blk.new (w.alloc (.cells #[.int .i64 n, .int .i64 o, .slice A la ca, .slice B lb cb] 25)) 3 #[.int .i64 a]).alloc (.cells #[.int .i64 b] 3)
    rw [World.size_alloc] at this
    exact this
  have k2 : Blk W (s + 2) 3 #[.int .i64 b] := by
    subst hW hs
    have := Blk.new ((w.alloc (.cells #[.int .i64 n, .int .i64 o, .slice A la ca, .slice B lb cb] 25)).alloc (.cells #[.int .i64 a] 3)) 3 #[.int .i64 b]
    rw [World.size_alloc, World.size_alloc] at this
    exact this
  have b0 : Below s w W := by
    subst hW hs; exact (((Below.refl _ _).alloc (Nat.le_refl _) _).alloc (by simp) _).alloc (by simp; omega) _
  have hsz : s + 3 ≤ W.heap.size := k2.lt
  have HX := Lib.hid (hX.next (hs ▸ b0))
  have HY := Lib.hid (hY.next (hs ▸ b0))
  have HX0 := Lib.hid hX
  have HY0 := Lib.hid hY
  have K0 := Lib.hid k0
  have K1 := Lib.hid k1
  have K2 := Lib.hid k2
  have B0 := Lib.hid b0
  have HW := Lib.hid hW
  have HS := Lib.hid hs
  obtain ⟨c0, c1, c2, c3⟩ := blk4 k0
  have d0 := k1.cell 0
  have f0 := k2.cell 0
  simp at d0 f0
  clear k0 k1 k2 b0 hW hX hY
  rw [hs]
  cases hv : validB n o X Y
  · have hz := Lib.hid (slnL_no (n := n) (o := o) (X := X) (Y := Y) (a := a) (b := b) (fun g => by rw [hv] at g; cases g.1))
    go_enter Try.func6, Try.ntmps6
    go_wp2_with (fail)
    rw [HW.out]
    go_wp2_with (go_at_call 24; ((with_reducible refine (valid_any _ _ _ _ _ _ _ _ X Y _ HX.out HY.out hla hlb hca hcb).mono ?_); rintro e1 w1 ⟨rfl, hb1⟩; have B1 := Lib.hid (B0.out.trans (hb1.mono (by omega))); clear hb1))
    go_ret
    exact ⟨_, rfl, by rw [hz.out]; exact SliceOut.nil, B1.out⟩
  · cases ha : inB n a
    · have hz := Lib.hid (slnL_no (n := n) (o := o) (X := X) (Y := Y) (a := a) (b := b) (fun g => by rw [ha] at g; cases g.2.1))
      go_enter Try.func6, Try.ntmps6
      go_wp2_with (fail)
      rw [HW.out]
      go_wp2_with (first
        | (go_at_call 24; ((with_reducible refine (valid_any _ _ _ _ _ _ _ _ X Y _ HX.out HY.out hla hlb hca hcb).mono ?_); rintro e1 w1 ⟨rfl, hb1⟩; have B1 := Lib.hid (B0.out.trans (hb1.mono (by omega))); obtain ⟨p0, p1, p2, p3⟩ := blk4 (K0.out.next hb1); have q0 := (K1.out.next hb1).cell 0; simp at q0; have s1 := hb1.size; clear hb1))
        | (go_at_call 25; ((with_reducible refine (has_any _ _ a _ _ _ _ _ _ _).mono ?_); rintro e2 w2 ⟨rfl, hb2⟩; have B2 := Lib.hid (B1.out.trans (hb2.mono (by omega))); clear hb2)))
      go_ret
      exact ⟨_, rfl, by rw [hz.out]; exact SliceOut.nil, B2.out⟩
    · cases hb : inB n b
      · have hz := Lib.hid (slnL_no (n := n) (o := o) (X := X) (Y := Y) (a := a) (b := b) (fun g => by rw [hb] at g; cases g.2.2))
        go_enter Try.func6, Try.ntmps6
        go_wp2_with (fail)
        rw [HW.out]
        go_wp2_with (first
          | (go_at_call 24; ((with_reducible refine (valid_any _ _ _ _ _ _ _ _ X Y _ HX.out HY.out hla hlb hca hcb).mono ?_); rintro e1 w1 ⟨rfl, hb1⟩; have B1 := Lib.hid (B0.out.trans (hb1.mono (by omega))); have L0 := Lib.hid (K0.out.next hb1); have L1 := Lib.hid (K1.out.next hb1); have L2 := Lib.hid (K2.out.next hb1); obtain ⟨p0, p1, p2, p3⟩ := blk4 L0.out; have q0 := L1.out.cell 0; simp at q0; have s1 := hb1.size; clear hb1))
          | (go_at_call 25; ((with_reducible refine (has_any _ _ a _ _ _ _ _ _ _).mono ?_); rintro e2 w2 ⟨rfl, hb2⟩; have B2 := Lib.hid (B1.out.trans (hb2.mono (by omega))); obtain ⟨r0, r1, r2, r3⟩ := blk4 (L0.out.next hb2); have t0 := (L2.out.next hb2).cell 0; simp at t0; have s2 := hb2.size; clear hb2))
          | (go_at_call 25; ((with_reducible refine (has_any _ _ b _ _ _ _ _ _ _).mono ?_); rintro e3 w3 ⟨rfl, hb3⟩; have B3 := Lib.hid (B2.out.trans (hb3.mono (by omega))); clear hb3)))
        go_ret
        exact ⟨_, rfl, by rw [hz.out]; exact SliceOut.nil, B3.out⟩
      · have ha' := of_decide_eq_true ha
        have hb' := of_decide_eq_true hb
        obtain ⟨m, e, b1, o1, b2, o2, rfl, rfl, rfl, rfl, hr, _, _, _, _, _⟩ := valid_data hv HX0.out HY0.out hca hcb
        obtain ⟨a, rfl⟩ := Int.eq_ofNat_of_zero_le ha'.1
        obtain ⟨b, rfl⟩ := Int.eq_ofNat_of_zero_le hb'.1
        have hz := Lib.hid (slnL_yes hv ha hb)
        have la' : a < m := by omega
        have lb' : b < m := by omega
        have hm' := hr.hm'
        have HR := Lib.hid hr
        have EG := Lib.hid (enters_of Try.func66 (by kernel_rfl) rfl)
        have EGM := Lib.hid (enters_of Try.func26 (by kernel_rfl) rfl)
        clear hr ha' hb'
        go_enter Try.func6, Try.ntmps6
        go_wp2_with (fail)
        rw [HW.out]
        go_wp2_with (first
          | (go_at_call 24; ((with_reducible refine (valid_any _ _ _ _ _ _ _ _ X Y _ HX.out HY.out hla hlb hca hcb).mono ?_); rintro e1 w1 ⟨rfl, hb1⟩; have B1 := Lib.hid (B0.out.trans (hb1.mono (by omega))); have L0 := Lib.hid (K0.out.next hb1); have L1 := Lib.hid (K1.out.next hb1); have L2 := Lib.hid (K2.out.next hb1); obtain ⟨p0, p1, p2, p3⟩ := blk4 L0.out; have q0 := L1.out.cell 0; simp at q0; have s1 := hb1.size; clear hb1))
          | (go_at_call 25; ((with_reducible refine (has_any _ _ (a : Int) _ _ _ _ _ _ _).mono ?_); rintro e2 w2 ⟨rfl, hb2⟩; have B2 := Lib.hid (B1.out.trans (hb2.mono (by omega))); have M0 := Lib.hid (L0.out.next hb2); have M1 := Lib.hid (L1.out.next hb2); have M2 := Lib.hid (L2.out.next hb2); obtain ⟨r0, r1, r2, r3⟩ := blk4 M0.out; have t0 := M2.out.cell 0; simp at t0; have s2 := hb2.size; clear hb2))
          | (go_at_call 25; ((with_reducible refine (has_any _ _ (b : Int) _ _ _ _ _ _ _).mono ?_); rintro e3 w3 ⟨rfl, hb3⟩; have B3 := Lib.hid (B2.out.trans (hb3.mono (by omega))); have N0 := Lib.hid (M0.out.next hb3); have N1 := Lib.hid (M1.out.next hb3); have N2 := Lib.hid (M2.out.next hb3); obtain ⟨u0, u1, u2, u3⟩ := blk4 N0.out; have s3 := hb3.size; clear hb3))
          | (go_at_call 30; refine (where2_any m e _ _ la ca lb cb 26 #[.pointer (some ⟨s, 0, none⟩), .pointer (some ⟨s + 1, 0, none⟩), .pointer (some ⟨s + 2, 0, none⟩)] w3).mono ?_; rintro e4 w4 ⟨rfl, hB1, hB2, hb4⟩; have s4 := hb4.size; have B4 := Lib.hid (B3.out.trans (hb4.mono (by omega))); have SQ := Lib.hid (where2_B w4.heap.size m _ (slnP m (tabOf X) (tabOf Y) a b) _ _ w4 hm' EGM.out hB1 rfl hB2 (Nat.le_refl _) (fun x hx V hV => slnF_any s (s + 1) (s + 2) a b x m e b1 o1 la ca b2 o2 lb cb (tabOf X) (tabOf Y) V (HR.out.next (HS.out ▸ B4.out.trans (hV.mono (by omega)))) ((N0.out.next hb4).next hV) ((N1.out.next hb4).next hV) ((N2.out.next hb4).next hV) la' lb' hx)); clear hb4 hB1 hB2))
        go_wp2_with (go_at_call 29; refine (collect_any m _ w4.heap.size m _ _ _ w4 EG.out SQ.out (by omega) (Nat.le_refl _)).mono ?_; rintro e5 w5 ⟨v, rfl, ho, hb5⟩; have B5 := Lib.hid (B4.out.trans (hb5.mono (by omega))); have HO := Lib.hid ho; clear hb5 ho)
        have hlen := selTo_len (m := m) (p := slnP m (tabOf X) (tabOf Y) a b) m
        go_ret
        exact ⟨_, rfl, by rw [hz.out]; exact (sel_out HO.out rfl (by omega)).down (by omega), B5.out⟩

set_option maxHeartbeats 8000000 in
theorem ssln_any (n o : Int) (A B : Option Addr) (la ca lb cb : Nat) (X Y : List Int) (a b : Int) (w : World) (hX : Ints w w.heap.size A la X) (hY : Ints w w.heap.size B lb Y) (hla : la ≤ 9223372036854775807) (hlb : lb ≤ 9223372036854775807) (hca : la ≤ ca) (hcb : lb ≤ cb) :
    Calls Try.prog 8 #[.agg #[.int .i64 n, .int .i64 o, .slice A la ca, .slice B lb cb], .int .i64 a, .int .i64 b] w fun e' w' => ∃ v, e' = .returned v ∧ SliceOut w.heap.size w' v (slnL n o X Y a b) ∧ Below w.heap.size w w' := by
  have HH := Lib.hid (show wrap64 (n - 1) = hiOf n from rfl)
  obtain ⟨i0, hi, hz0, hz1, hz2⟩ := info_parts int_info
  obtain ⟨W, hW⟩ : ∃ W, ((w.alloc (.cells #[.int .i64 n, .int .i64 o, .slice A la ca, .slice B lb cb] 25)).alloc (.cells #[] 3)).alloc (.cells #[.int .i64 a, .int .i64 b] 3) = W := ⟨_, rfl⟩
  have k0 : Blk W w.heap.size 25 #[.int .i64 n, .int .i64 o, .slice A la ca, .slice B lb cb] := by
    subst hW; exact ((Blk.new w _ _).alloc _).alloc _
  have b0 : Below w.heap.size w W := by
    subst hW; exact (((Below.refl _ _).alloc (Nat.le_refl _) _).alloc (by simp) _).alloc (by simp; omega) _
  have o0 : W.ownsRow w.heap.size 3 1 (.slice (some ⟨w.heap.size + 1, 0, none⟩) 0 0) 0 [] := by
    subst hW
    have := own_lit_K (w := w.alloc (.cells #[.int .i64 n, .int .i64 o, .slice A la ca, .slice B lb cb] 25)) (base := w.heap.size) (e := 3) [] (by simp) (by unfold maxLen; simp)
    simpa using this.alloc (.cells #[.int .i64 a, .int .i64 b] 3)
  have hE : Ints W (w.heap.size + 3) (some ⟨w.heap.size + 2, 0, none⟩) 2 [a, b] := by
    subst hW
    have := ints_two (w := (w.alloc (.cells #[.int .i64 n, .int .i64 o, .slice A la ca, .slice B lb cb] 25)).alloc (.cells #[] 3)) (u := a) (v := b) (T := 3)
    simpa using this
  have HX := Lib.hid (hX.next b0)
  have HY := Lib.hid (hY.next b0)
  have HX0 := Lib.hid hX
  have HY0 := Lib.hid hY
  have K := Lib.hid k0
  have B0 := Lib.hid b0
  have O0 := Lib.hid o0
  have HE := Lib.hid hE
  have HW := Lib.hid hW
  have hs0 := k0.lt
  obtain ⟨c0, c1, c2, c3⟩ := blk4 k0
  clear hX hY b0 k0 o0 hW hE
  cases he : elB (hiOf n) [a, b]
  · have hz := Lib.hid (slnL_no (n := n) (o := o) (X := X) (Y := Y) (a := a) (b := b) (fun g => by rw [hi_valid g.1, elB_two.2 g.2] at he; cases he))
    go_enter Try.func8, Try.ntmps8
    go_wp2_with (fail)
    rw [HW.out]
    go_wp2_with (go_at_call 31; ((with_reducible refine (l1Elements_any _ _ _ _ _ [a, b] _ _ HH.out HE.out (by omega)).mono ?_); rintro e51 w51 ⟨rfl, rfl⟩))
    go_ret
    exact ⟨_, rfl, by rw [hz.out]; exact SliceOut.of_row (n := 0) O0.out rfl (by omega), B0.out⟩
  · cases hv : validB n o X Y
    · have hz := Lib.hid (slnL_no (n := n) (o := o) (X := X) (Y := Y) (a := a) (b := b) (fun g => by rw [hv] at g; cases g.1))
      go_enter Try.func8, Try.ntmps8
      go_wp2_with (fail)
      rw [HW.out]
      go_wp2_with (first
        | (go_at_call 31; ((with_reducible refine (l1Elements_any _ _ _ _ _ [a, b] _ _ HH.out HE.out (by omega)).mono ?_); rintro e51 w51 ⟨rfl, rfl⟩))
        | (go_at_call 32; ((with_reducible refine (specValid_any _ _ _ _ _ _ _ _ X Y _ HX.out HY.out hla hlb hca hcb).mono ?_); rintro e1 w1 ⟨rfl, hb1⟩; have B1 := Lib.hid (below_step B0.out hb1); have O1 := Lib.hid (own_nextK O0.out hb1); clear hb1)))
      go_ret
      exact ⟨_, rfl, by rw [hz.out]; exact SliceOut.of_row (n := 0) O1.out rfl (by omega), B1.out⟩
    · have hab := elB_two.1 (by rw [← hi_valid hv]; exact he)
      obtain ⟨m, e, b1, o1, b2, o2, rfl, rfl, rfl, rfl, hr, _, _, _, _, _⟩ := valid_data hv HX0.out HY0.out hca hcb
      have ha' := of_decide_eq_true hab.1
      have hb' := of_decide_eq_true hab.2
      obtain ⟨a, rfl⟩ := Int.eq_ofNat_of_zero_le ha'.1
      obtain ⟨b, rfl⟩ := Int.eq_ofNat_of_zero_le hb'.1
      have la' : a < m := by omega
      have lb' : b < m := by omega
      have hz := Lib.hid (slnL_yes hv hab.1 hab.2)
      have hm' := hr.hm'
      have HR0 := Lib.hid hr
      clear hr hab ha' hb'
      go_enter Try.func8, Try.ntmps8
      go_wp2_with (fail)
      rw [HW.out]
      go_wp2_with (first
        | (go_at_call 31; ((with_reducible refine (l1Elements_any _ _ _ _ _ [(a : Int), (b : Int)] _ _ HH.out HE.out (by omega)).mono ?_); rintro e51 w51 ⟨rfl, rfl⟩))
        | (go_at_call 32; ((with_reducible refine (specValid_any _ _ _ _ _ _ _ _ X Y _ HX.out HY.out hla hlb hca hcb).mono ?_); rintro e1 w1 ⟨rfl, hb1⟩; have B1 := Lib.hid (below_step B0.out hb1); have K1 := Lib.hid (K.out.next hb1); have O1 := Lib.hid (own_nextK O0.out hb1); have R1 := Lib.hid (HR0.out.next B1.out); have s1 := hb1.size; obtain ⟨d0, d1, d2, d3⟩ := blk4 K1.out; clear hb1)))
      obtain ⟨q, hqq⟩ : ∃ q, slnP m (tabOf X) (tabOf Y) a b = q := ⟨_, rfl⟩
      have HQQ := Lib.hid hqq
      rw [hqq] at hz
      clear hqq c0 c1 c2 c3
      go_loopg [7, 25] m (fun g vs vi wr => ∃ j : Nat, j ≤ m ∧ m ≤ j + g ∧ vi = .int .i64 j ∧ wr.ownsRow w.heap.size 3 1 vs (selTo m q j).length (finV (selTo m q j)) ∧ Below w.heap.size w wr ∧ Blk wr w.heap.size 25 #[.int .i64 m, .int .i64 e, .slice (some ⟨b1, o1, none⟩) la ca, .slice (some ⟨b2, o2, none⟩) lb cb] ∧ RingAt wr m e b1 o1 la ca b2 o2 lb cb (tabOf X) (tabOf Y))
      case atStart => exact ⟨0, Nat.zero_le _, by omega, rfl, O1.out, B1.out, K1.out, R1.out⟩
      case round =>
        obtain ⟨j, hj, hg, rfl, hown, hb, hK, hR⟩ := hrel
        clear d0 d1 d2 d3
        obtain ⟨d0, d1, d2, d3⟩ := blk4 hK
        have hsz := hb.size
        have KK := Lib.hid hK
        have RR := Lib.hid hR
        have OW := Lib.hid hown
        have BW := Lib.hid hb
        have hln := selTo_len (m := m) (p := q) j
        clear hK hR hown hb
        by_cases hlt : j < m
        · have hp := RR.out.tp.lt la' hlt
          have hs := RR.out.ts.lt hp lb'
          cases hq : q j
          · have HQ := Lib.hid (selTo_no (m := m) hq)
            have t1 : ((tabOf X (tabOf Y (a * m + j) * m + b) : Int) == 0) = false := by
              rw [beq_eq_false_iff_ne]
              rw [← HQQ.out] at hq
              have := of_decide_eq_false hq
              omega
            clear hq
            go_wp2_with (fail)
            refine wp_region_ext (by kernel_rfl) (by kernel_rfl) ?_
            repeat (go_big_quiet_step (((first
              | (go_at_call 34; ((with_reducible refine calls_ext (l1Mul_any a j m e b1 o1 la ca b2 o2 lb cb (tabOf X) (tabOf Y) _ (RR.out.ext _) la' hlt))))
              | (go_at_call 33; ((with_reducible refine calls_ext (l1Add_any (tabOf Y (a * m + j)) b m e b1 o1 la ca b2 o2 lb cb (tabOf X) (tabOf Y) _ (RR.out.ext _) hp lb'))))))))
            refine wpQuiet_nil ?_
            intro w3 hb3
            have B3 := Lib.hid (below_step BW.out hb3)
            have O3 := Lib.hid (own_nextK OW.out hb3)
            have K3 := Lib.hid (KK.out.next hb3)
            have R3 := Lib.hid (RR.out.next hb3)
            clear hb3 d0 d1 d2 d3
            go_wp2
            go_roundg (m - (j + 1))
            case measure => omega
            case rel => exact ⟨j + 1, by omega, by omega, by go_num, by rw [HQ.out]; exact O3.out, B3.out, K3.out, R3.out⟩
          · have HQ := Lib.hid (selTo_yes hlt hq)
            have t1 : ((tabOf X (tabOf Y (a * m + j) * m + b) : Int) == 0) = true := by
              rw [beq_iff_eq]
              rw [← HQQ.out] at hq
              have := of_decide_eq_true hq
              omega
            clear hq
            go_wp2_with (fail)
            refine wp_region_ext (by kernel_rfl) (by kernel_rfl) ?_
            repeat (go_big_quiet_step (((first
              | (go_at_call 34; ((with_reducible refine calls_ext (l1Mul_any a j m e b1 o1 la ca b2 o2 lb cb (tabOf X) (tabOf Y) _ (RR.out.ext _) la' hlt))))
              | (go_at_call 33; ((with_reducible refine calls_ext (l1Add_any (tabOf Y (a * m + j)) b m e b1 o1 la ca b2 o2 lb cb (tabOf X) (tabOf Y) _ (RR.out.ext _) hp lb'))))))))
            refine wpQuiet_nil ?_
            intro w3 hb3
            have B3 := Lib.hid (below_step BW.out hb3)
            have O3 := Lib.hid (own_nextK OW.out hb3)
            have K3 := Lib.hid (KK.out.next hb3)
            have hs3 := hb3.size
            clear hb3 d0 d1 d2 d3
            go_wp2_with (at_builtin; refine wpList_append_own _ rfl _ _ 23 rfl w.heap.size 3 i0 (.int .i64 0) 1 8 Try.underlying23 hi hz0 hz1 hz2 rfl (by decide) _ _ _ rfl (O3.out.alloc _) ⟨w3.heap.size, 0, none⟩ 1 1 [.int .i64 j] rfl rfl (by intro i u hi; match i, hi with | 0, hi => simp at hi; subst hi; simp [Addr.add]) (by intro u hu; simp at hu; subst hu; rfl) (by unfold maxLen; omega) (by omega) (by simp; omega) ?_; intro v5 w5 hown5 hg5 _; have kp := append_keeps K3.out O3.out (by decide) hg5 (Nat.le_trans hsz hs3); have bb := (Below.refl w3.heap.size w3).alloc (Nat.le_refl _) (.cells #[.int .i64 j] 3); have B5 := Lib.hid (B3.out.trans kp.2.1); have K5 := Lib.hid kp.1; have O5 := Lib.hid (show w5.ownsRow w.heap.size 3 1 v5 (selTo m q (j + 1)).length (finV (selTo m q (j + 1))) by rw [HQ.out]; simpa [finV] using hown5); clear hown5 hg5 kp bb)
            have R5 := Lib.hid (HR0.out.next B5.out)
            go_roundg (m - (j + 1))
            case measure => omega
            case rel => exact ⟨j + 1, by omega, by omega, by go_num, O5.out, B5.out, K5.out, R5.out⟩
        · have hjm : j = m := by omega
          subst hjm
          go_wp2
          go_ret
          exact ⟨_, rfl, by rw [hz.out]; exact sel_out OW.out rfl (by omega), BW.out⟩

end Go.Proofs.Ytajoimopahibcaa

