
/- The lists of the elements of a kind, of both sides. -/
import Derived.Test.YtocoegekdamlbaaI3
import Derived.Test.YtocoegekdamlbaaC5
namespace Go.Proofs.Ytocoegekdamlbaa
open Go.RowKit Go.Shelf
set_option maxRecDepth 100000

/-- The elements of a kind as numbers. -/
def finI {m : Nat} (l : List (Fin m)) : List Int := l.map fun x => (x.1 : Int)
theorem finI_len {m : Nat} {l : List (Fin m)} : (finI l).length = l.length := by simp [finI]
theorem finV_I {m : Nat} {l : List (Fin m)} : finV l = (finI l).map (.int .i64) := by simp [finI, finV]
noncomputable def kindsL (n o : Int) (X Y : List Int) (k : Nat) : List Int := @ite _ (validB n o X Y = true) (Classical.propDecidable _) (finI (selTo n.toNat (kindB n.toNat (tabOf Y) o.toNat k) n.toNat)) []
theorem kindsL_no {n o : Int} {X Y : List Int} {k : Nat} (h : ¬ validB n o X Y = true) : kindsL n o X Y k = [] := @if_neg _ (Classical.propDecidable _) h _ _ _
theorem kindsL_yes {m e : Nat} {X Y : List Int} {k : Nat} (h : validB m e X Y = true) : kindsL m e X Y k = finI (selTo m (kindB m (tabOf Y) e k) m) := @if_pos _ (Classical.propDecidable _) h _ _ _

/-- What ofKind hands back is an iterator over the elements of the kind. -/
theorem ofKind_seq {k Br Bp : Nat} (m e b1 o1 la ca b2 o2 lb cb : Nat) (S P : Nat → Nat) (w : World) (hr : RingAt w m e b1 o1 la ca b2 o2 lb cb S P) (hk : k ≤ 3) (h1 : Blk w Br 28 #[.int .i64 m, .int .i64 e, .slice (some ⟨b1, o1, none⟩) la ca, .slice (some ⟨b2, o2, none⟩) lb cb])
    (h2 : Blk w Bp 63 #[.func (.func (testF k)) #[.agg #[.int .i64 m, .int .i64 e, .slice (some ⟨b1, o1, none⟩) la ca, .slice (some ⟨b2, o2, none⟩) lb cb]] #[]]) :
    SeqStopsK Fence.wide 2 Try.prog 95 #[.pointer (some ⟨Br, 0, none⟩), .pointer (some ⟨Bp, 0, none⟩)] (encF m) (Below w.heap.size) (fun ys => ys = selTo m (kindB m P e k) m) (fun pre => pre <+: selTo m (kindB m P e k) m) m w :=
  where_stops 2 m Br Bp (testF k) #[.agg #[.int .i64 m, .int .i64 e, .slice (some ⟨b1, o1, none⟩) la ca, .slice (some ⟨b2, o2, none⟩) lb cb]] (kindB m P e k) (by decide) hr.hm' (Below w.heap.size) (fun W => Below w.heap.size w W) (tests_enter hk)
    (fun W hW => (h1.below hW h1.lt).cell 0) (fun W hW => (h2.below hW h2.lt).cell 0) (fun W W' hW hb => hW.trans (hb.mono hW.size)) (fun W W' hW hb => hW.trans hb)
    (fun a ha W hW => tests_call m e b1 o1 la ca b2 o2 lb cb S P W (hr.next hW) hk ha) w (fun W hW => hW)

theorem sel_out {D m n1 : Nat} {w : World} {v : Value} {l : List (Fin m)} (h : w.ownsRow D 3 1 v n1 (finV l)) (hl : n1 = l.length) (hm : n1 ≤ 16) : SliceOut D w v (finI l) :=
  SliceOut.of_row (finV_I ▸ h) (by rw [finI_len, hl]) (by omega)

set_option maxHeartbeats 4000000 in
theorem listOf_any (ki : Int) (k : Nat) (n o : Int) (A B : Option Addr) (la ca lb cb : Nat) (X Y : List Int) (w : World) (hki : ki = k) (hk : k ≤ 3) (hX : Ints w w.heap.size A la X) (hY : Ints w w.heap.size B lb Y) (hla : la ≤ 9223372036854775807) (hlb : lb ≤ 9223372036854775807) (hca : la ≤ ca) (hcb : lb ≤ cb) :
    Calls Try.prog 63 #[.agg #[.int .i64 n, .int .i64 o, .slice A la ca, .slice B lb cb], .int .i64 ki] w fun e' w' => ∃ v, e' = .returned v ∧ SliceOut w.heap.size w' v (kindsL n o X Y k) ∧ Below w.heap.size w w' := by
  subst hki
  cases hv : validB n o X Y
  · have hz := Lib.hid (kindsL_no (n := n) (o := o) (X := X) (Y := Y) (k := k) (by rw [hv]; simp))
    have b0 : Below w.heap.size w (w.alloc (.cells #[.int .i64 n, .int .i64 o, .slice A la ca, .slice B lb cb] 28)) := (Below.refl _ _).alloc (Nat.le_refl _) _
    have HX := Lib.hid (hX.next b0)
    have HY := Lib.hid (hY.next b0)
    have B0 := Lib.hid b0
    clear hX hY b0
    go_enter Try.func63, Try.ntmps63
    go_wp2_with (go_at_call 65; refine (valid_any _ _ _ _ _ _ _ _ X Y _ HX.out HY.out hla hlb hca hcb).mono ?_; rintro e1 w1 ⟨rfl, hb1⟩)
    go_ret
    exact ⟨_, rfl, by rw [hz.out]; exact SliceOut.nil, below_step B0.out hb1⟩
  · obtain ⟨m, e, b1, o1, b2, o2, rfl, rfl, rfl, rfl, hr, _, _, _, _, _⟩ := valid_data hv hX hY hca hcb
    have hz := Lib.hid (kindsL_yes (k := k) hv)
    have hm' := hr.hm'
    obtain ⟨W, hW⟩ : ∃ W, w.alloc (.cells #[.int .i64 m, .int .i64 e, .slice (some ⟨b1, o1, none⟩) la ca, .slice (some ⟨b2, o2, none⟩) lb cb] 28) = W := ⟨_, rfl⟩
    have k0 : Blk W w.heap.size 28 #[.int .i64 m, .int .i64 e, .slice (some ⟨b1, o1, none⟩) la ca, .slice (some ⟨b2, o2, none⟩) lb cb] := by
      subst hW; exact Blk.new w _ _
    have b0 : Below w.heap.size w W := by
      subst hW; exact (Below.refl _ _).alloc (Nat.le_refl _) _
    have HX := Lib.hid (hX.next b0)
    have HY := Lib.hid (hY.next b0)
    have K := Lib.hid k0
    have R0 := Lib.hid (hr.next b0)
    have B0 := Lib.hid b0
    have HW := Lib.hid hW
    have hs0 := k0.lt
    clear hX hY hr b0 hW k0
    go_enter Try.func63, Try.ntmps63
    go_wp2_with (fail)
    rw [HW.out]
    refine (valid_any _ _ _ _ _ _ _ _ X Y W HX.out HY.out hla hlb hca hcb).mono ?_
    rintro e1 w1 ⟨rfl, hb1⟩
    have K := Lib.hid (K.out.next hb1)
    have R1 := Lib.hid (R0.out.next hb1)
    have B1 := Lib.hid (below_step B0.out hb1)
    have hs1 := hb1.size
    clear hb1
    obtain ⟨c0, c1, c2, c3⟩ := blk4 K.out
    go_wp2_with (fail)
    refine (ofKind_any k m e _ _ la ca lb cb w1 hk).mono ?_
    rintro e2 w2 ⟨Br, Bp, rfl, h1, h2, h3, h4, hb2⟩
    have B2 := Lib.hid (below_step B1.out hb2)
    have SQ := Lib.hid (ofKind_seq m e b1 o1 la ca b2 o2 lb cb (tabOf X) (tabOf Y) w2 (R1.out.next hb2) hk h3 h4)
    have hs2 := hb2.size
    clear hb2 h3 h4
    have EG := Lib.hid (enters_of Try.func95 (by kernel_rfl) rfl)
    go_wp2_with (go_at_call 75; refine (collect_any m _ w2.heap.size m _ _ _ w2 EG.out SQ.out (by omega) (Nat.le_refl _)).mono ?_; rintro e3 w3 ⟨v, rfl, ho, hb3⟩)
    have hlen := selTo_len (m := m) (p := kindB m (tabOf Y) e k) m
    go_ret
    exact ⟨_, rfl, by rw [hz.out]; exact (sel_out ho rfl (by omega)).down (by omega), below_step B2.out hb3⟩

set_option maxHeartbeats 1000000 in
theorem kind0_any (n o : Int) (A B : Option Addr) (la ca lb cb : Nat) (X Y : List Int) (w : World) (hX : Ints w w.heap.size A la X) (hY : Ints w w.heap.size B lb Y) (hla : la ≤ 9223372036854775807) (hlb : lb ≤ 9223372036854775807) (hca : la ≤ ca) (hcb : lb ≤ cb) :
    Calls Try.prog 29 #[.agg #[.int .i64 n, .int .i64 o, .slice A la ca, .slice B lb cb]] w fun e' w' => ∃ v, e' = .returned v ∧ SliceOut w.heap.size w' v (kindsL n o X Y 0) ∧ Below w.heap.size w w' := by
  have b0 : Below w.heap.size w (w.alloc (.cells #[.int .i64 n, .int .i64 o, .slice A la ca, .slice B lb cb] 28)) := (Below.refl _ _).alloc (Nat.le_refl _) _
  have HX := Lib.hid (hX.next b0)
  have HY := Lib.hid (hY.next b0)
  have B0 := Lib.hid b0
  clear hX hY b0
  go_enter Try.func29, Try.ntmps29
  go_wp2_with (go_at_call 63; refine (listOf_any _ 0 _ _ _ _ _ _ _ _ X Y _ rfl (by decide) HX.out HY.out hla hlb hca hcb).mono ?_; rintro e1 w1 ⟨v, rfl, ho, hb1⟩)
  go_ret
  exact ⟨v, rfl, ho.down (by simp), below_step B0.out hb1⟩

set_option maxHeartbeats 1000000 in
theorem kind1_any (n o : Int) (A B : Option Addr) (la ca lb cb : Nat) (X Y : List Int) (w : World) (hX : Ints w w.heap.size A la X) (hY : Ints w w.heap.size B lb Y) (hla : la ≤ 9223372036854775807) (hlb : lb ≤ 9223372036854775807) (hca : la ≤ ca) (hcb : lb ≤ cb) :
    Calls Try.prog 33 #[.agg #[.int .i64 n, .int .i64 o, .slice A la ca, .slice B lb cb]] w fun e' w' => ∃ v, e' = .returned v ∧ SliceOut w.heap.size w' v (kindsL n o X Y 1) ∧ Below w.heap.size w w' := by
  have b0 : Below w.heap.size w (w.alloc (.cells #[.int .i64 n, .int .i64 o, .slice A la ca, .slice B lb cb] 28)) := (Below.refl _ _).alloc (Nat.le_refl _) _
  have HX := Lib.hid (hX.next b0)
  have HY := Lib.hid (hY.next b0)
  have B0 := Lib.hid b0
  clear hX hY b0
  go_enter Try.func33, Try.ntmps33
  go_wp2_with (go_at_call 63; refine (listOf_any _ 1 _ _ _ _ _ _ _ _ X Y _ rfl (by decide) HX.out HY.out hla hlb hca hcb).mono ?_; rintro e1 w1 ⟨v, rfl, ho, hb1⟩)
  go_ret
  exact ⟨v, rfl, ho.down (by simp), below_step B0.out hb1⟩

set_option maxHeartbeats 1000000 in
theorem kind2_any (n o : Int) (A B : Option Addr) (la ca lb cb : Nat) (X Y : List Int) (w : World) (hX : Ints w w.heap.size A la X) (hY : Ints w w.heap.size B lb Y) (hla : la ≤ 9223372036854775807) (hlb : lb ≤ 9223372036854775807) (hca : la ≤ ca) (hcb : lb ≤ cb) :
    Calls Try.prog 35 #[.agg #[.int .i64 n, .int .i64 o, .slice A la ca, .slice B lb cb]] w fun e' w' => ∃ v, e' = .returned v ∧ SliceOut w.heap.size w' v (kindsL n o X Y 2) ∧ Below w.heap.size w w' := by
  have b0 : Below w.heap.size w (w.alloc (.cells #[.int .i64 n, .int .i64 o, .slice A la ca, .slice B lb cb] 28)) := (Below.refl _ _).alloc (Nat.le_refl _) _
  have HX := Lib.hid (hX.next b0)
  have HY := Lib.hid (hY.next b0)
  have B0 := Lib.hid b0
  clear hX hY b0
  go_enter Try.func35, Try.ntmps35
  go_wp2_with (go_at_call 63; refine (listOf_any _ 2 _ _ _ _ _ _ _ _ X Y _ rfl (by decide) HX.out HY.out hla hlb hca hcb).mono ?_; rintro e1 w1 ⟨v, rfl, ho, hb1⟩)
  go_ret
  exact ⟨v, rfl, ho.down (by simp), below_step B0.out hb1⟩

set_option maxHeartbeats 1000000 in
theorem kind3_any (n o : Int) (A B : Option Addr) (la ca lb cb : Nat) (X Y : List Int) (w : World) (hX : Ints w w.heap.size A la X) (hY : Ints w w.heap.size B lb Y) (hla : la ≤ 9223372036854775807) (hlb : lb ≤ 9223372036854775807) (hca : la ≤ ca) (hcb : lb ≤ cb) :
    Calls Try.prog 37 #[.agg #[.int .i64 n, .int .i64 o, .slice A la ca, .slice B lb cb]] w fun e' w' => ∃ v, e' = .returned v ∧ SliceOut w.heap.size w' v (kindsL n o X Y 3) ∧ Below w.heap.size w w' := by
  have b0 : Below w.heap.size w (w.alloc (.cells #[.int .i64 n, .int .i64 o, .slice A la ca, .slice B lb cb] 28)) := (Below.refl _ _).alloc (Nat.le_refl _) _
  have HX := Lib.hid (hX.next b0)
  have HY := Lib.hid (hY.next b0)
  have B0 := Lib.hid b0
  clear hX hY b0
  go_enter Try.func37, Try.ntmps37
  go_wp2_with (go_at_call 63; refine (listOf_any _ 3 _ _ _ _ _ _ _ _ X Y _ rfl (by decide) HX.out HY.out hla hlb hca hcb).mono ?_; rintro e1 w1 ⟨v, rfl, ho, hb1⟩)
  go_ret
  exact ⟨v, rfl, ho.down (by simp), below_step B0.out hb1⟩

end Go.Proofs.Ytocoegekdamlbaa
