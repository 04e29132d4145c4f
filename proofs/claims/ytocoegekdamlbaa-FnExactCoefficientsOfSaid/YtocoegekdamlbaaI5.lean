
/- The lists of the elements of a kind, as the reading side makes them. -/
import Derived.Test.YtocoegekdamlbaaI4
namespace Go.Proofs.Ytocoegekdamlbaa
open Go.RowKit
set_option maxRecDepth 100000

theorem own_lit_K {w : World} {base : Nat} {e : TypeId} (l : List Value) (hb : base ≤ w.heap.size) (hl : l.length ≤ maxLen) :
    (w.alloc (.cells l.toArray e)).ownsRow base e 1 (.slice (some ⟨w.heap.size, 0, none⟩) l.length l.length) l.length l :=
  ⟨by simp, .inr ⟨w.heap.size, l.length, l.toArray, rfl, hb, heap_alloc_new w _, Nat.le_refl _, hl, by simp, by simp⟩⟩

set_option maxHeartbeats 4000000 in
theorem l3All_any (ki : Int) (k : Nat) (n o : Int) (A B : Option Addr) (la ca lb cb : Nat) (X Y : List Int) (w : World) (hki : ki = k) (hk : k ≤ 3) (hX : Ints w w.heap.size A la X) (hY : Ints w w.heap.size B lb Y) (hla : la ≤ 9223372036854775807) (hlb : lb ≤ 9223372036854775807) (hca : la ≤ ca) (hcb : lb ≤ cb) :
    Calls Try.prog 62 #[.agg #[.int .i64 n, .int .i64 o, .slice A la ca, .slice B lb cb], .int .i64 ki] w fun e' w' => ∃ v, e' = .returned v ∧ SliceOut w.heap.size w' v (kindsL n o X Y k) ∧ Below w.heap.size w w' := by
  subst hki
  obtain ⟨i0, hi, hz0, hz1, hz2⟩ := info_parts int_info
  obtain ⟨W, hW⟩ : ∃ W, (w.alloc (.cells #[.int .i64 n, .int .i64 o, .slice A la ca, .slice B lb cb] 28)).alloc (.cells #[] 3) = W := ⟨_, rfl⟩
  have k0 : Blk W w.heap.size 28 #[.int .i64 n, .int .i64 o, .slice A la ca, .slice B lb cb] := by
    subst hW; exact (Blk.new w _ _).alloc _
  have b0 : Below w.heap.size w W := by
    subst hW; exact ((Below.refl _ _).alloc (Nat.le_refl _) _).alloc (by simp) _
  have o0 : W.ownsRow w.heap.size 3 1 (.slice (some ⟨w.heap.size + 1, 0, none⟩) 0 0) 0 [] := by
    subst hW
    have := own_lit_K (w := w.alloc (.cells #[.int .i64 n, .int .i64 o, .slice A la ca, .slice B lb cb] 28)) (base := w.heap.size) (e := 3) [] (by simp) (by unfold maxLen; simp)
    simpa using this
  have HX := Lib.hid (hX.next b0)
  have HY := Lib.hid (hY.next b0)
  have K := Lib.hid k0
  have B0 := Lib.hid b0
  have O0 := Lib.hid o0
  have HW := Lib.hid hW
  have hs0 := k0.lt
  cases hv : validB n o X Y
  · have hz := Lib.hid (kindsL_no (n := n) (o := o) (X := X) (Y := Y) (k := k) (by rw [hv]; simp))
    obtain ⟨c0, c1, c2, c3⟩ := blk4 K.out
    clear hX hY b0 k0 o0 hW
    go_enter Try.func62, Try.ntmps62
    go_wp2_with (fail)
    rw [HW.out]
    refine (specValid_any _ _ _ _ _ _ _ _ X Y W HX.out HY.out hla hlb hca hcb).mono ?_
    rintro e1 w1 ⟨rfl, hb1⟩
    have O1 := Lib.hid (own_nextK O0.out hb1)
    go_wp2
    go_ret
    exact ⟨_, rfl, by rw [hz.out]; exact SliceOut.of_row (n := 0) O1.out rfl (by omega), below_step B0.out hb1⟩
  · obtain ⟨m, e, b1, o1, b2, o2, rfl, rfl, rfl, rfl, hr, _, _, _, _, _⟩ := valid_data hv hX hY hca hcb
    have hz := Lib.hid (kindsL_yes (k := k) hv)
    have hm' := hr.hm'
    have R0 := Lib.hid (hr.next b0)
    have HR0 := Lib.hid hr
    obtain ⟨c0, c1, c2, c3⟩ := blk4 K.out
    clear hX hY b0 k0 o0 hW hr
    go_enter Try.func62, Try.ntmps62
    go_wp2_with (fail)
    rw [HW.out]
    refine (specValid_any _ _ _ _ _ _ _ _ X Y W HX.out HY.out hla hlb hca hcb).mono ?_
    rintro e1 w1 ⟨rfl, hb1⟩
    have K := Lib.hid (K.out.next hb1)
    have R1 := Lib.hid (R0.out.next hb1)
    have B1 := Lib.hid (below_step B0.out hb1)
    have O1 := Lib.hid (own_nextK O0.out hb1)
    have hs1 := hb1.size
    have k1 : w.heap.size < w1.heap.size := by omega
    clear hb1 c0 c1 c2 c3
    obtain ⟨c0, c1, c2, c3⟩ := blk4 K.out
    go_wp2
    go_loopg [5, 14] m (fun g vs vi wr => ∃ j : Nat, j ≤ m ∧ m ≤ j + g ∧ vi = .int .i64 j ∧ wr.ownsRow w.heap.size 3 1 vs (selTo m (kindB m (tabOf Y) e k) j).length (finV (selTo m (kindB m (tabOf Y) e k) j)) ∧ Below w.heap.size w wr ∧ Blk wr w.heap.size 28 #[.int .i64 m, .int .i64 e, .slice (some ⟨b1, o1, none⟩) la ca, .slice (some ⟨b2, o2, none⟩) lb cb] ∧ RingAt wr m e b1 o1 la ca b2 o2 lb cb (tabOf X) (tabOf Y))
    case atStart => exact ⟨0, Nat.zero_le _, by omega, rfl, O1.out, B1.out, K.out, R1.out⟩
    case round =>
      obtain ⟨j, hj, hg, rfl, hown, hb, hK, hR⟩ := hrel
      obtain ⟨d0, d1, d2, d3⟩ := blk4 hK
      have hsz := hb.size
      have KK := Lib.hid hK
      have RR := Lib.hid hR
      have OW := Lib.hid hown
      have BW := Lib.hid hb
      have hln := selTo_len (m := m) (p := kindB m (tabOf Y) e k) j
      clear hK hR hown hb c0 c1 c2 c3
      by_cases hlt : j < m
      · cases hq : kindB m (tabOf Y) e k j
        · have HQ := Lib.hid (selTo_no (m := m) hq)
          go_wp2_with (go_at_call 80; ((with_reducible refine (l3Is_any j k m e b1 o1 la ca b2 o2 lb cb (tabOf X) (tabOf Y) _ RR.out hlt hk).mono ?_); rintro e3 w3 ⟨rfl, hb3⟩; have B3 := Lib.hid (below_step BW.out hb3); have O3 := Lib.hid (own_nextK OW.out hb3); have K3 := Lib.hid (KK.out.next hb3); have R3 := Lib.hid (RR.out.next hb3); clear hb3))
          go_roundg (m - (j + 1))
          case measure => omega
          case rel => exact ⟨j + 1, by omega, by omega, by go_num, by rw [HQ.out]; exact O3.out, B3.out, K3.out, R3.out⟩
        · have HQ := Lib.hid (selTo_yes hlt hq)
          go_wp2_with (first
            | (go_at_call 80; ((with_reducible refine (l3Is_any j k m e b1 o1 la ca b2 o2 lb cb (tabOf X) (tabOf Y) _ RR.out hlt hk).mono ?_); rintro e3 w3 ⟨rfl, hb3⟩; have B3 := Lib.hid (below_step BW.out hb3); have O3 := Lib.hid (own_nextK OW.out hb3); have K3 := Lib.hid (KK.out.next hb3); have R3 := Lib.hid (RR.out.next hb3); have hs3 := hb3.size; clear hb3))
            | (at_builtin; refine wpList_append_own _ rfl _ _ 22 rfl w.heap.size 3 i0 (.int .i64 0) 1 8 Try.underlying22 hi hz0 hz1 hz2 rfl (by decide) _ _ _ rfl (O3.out.alloc _) ⟨w3.heap.size, 0, none⟩ 1 1 [.int .i64 j] rfl rfl (by intro i u hi; match i, hi with | 0, hi => simp at hi; subst hi; simp [Addr.add]) (by intro u hu; simp at hu; subst hu; rfl) (by unfold maxLen; omega) (by omega) (by simp; omega) ?_; intro v5 w5 hown5 hg5 _; have kp := append_keeps K3.out O3.out (by decide) hg5 (Nat.le_trans hsz hs3); have bb := (Below.refl w3.heap.size w3).alloc (Nat.le_refl _) (.cells #[.int .i64 j] 3); have B5 := Lib.hid (B3.out.trans kp.2.1); have K5 := Lib.hid kp.1; have O5 := Lib.hid (show w5.ownsRow w.heap.size 3 1 v5 (selTo m (kindB m (tabOf Y) e k) (j + 1)).length (finV (selTo m (kindB m (tabOf Y) e k) (j + 1))) by rw [HQ.out]; simpa [finV] using hown5); clear hown5 hg5 kp bb))
          have R5 := Lib.hid (HR0.out.next B5.out)
          go_roundg (m - (j + 1))
          case measure => omega
          case rel => exact ⟨j + 1, by omega, by omega, by go_num, O5.out, B5.out, K5.out, R5.out⟩
      · have hjm : j = m := by omega
        subst hjm
        go_wp2
        go_ret
        exact ⟨_, rfl, by rw [hz.out]; exact sel_out OW.out rfl (by omega), BW.out⟩

set_option maxHeartbeats 1000000 in
theorem skind0_any (n o : Int) (A B : Option Addr) (la ca lb cb : Nat) (X Y : List Int) (w : World) (hX : Ints w w.heap.size A la X) (hY : Ints w w.heap.size B lb Y) (hla : la ≤ 9223372036854775807) (hlb : lb ≤ 9223372036854775807) (hca : la ≤ ca) (hcb : lb ≤ cb) :
    Calls Try.prog 28 #[.agg #[.int .i64 n, .int .i64 o, .slice A la ca, .slice B lb cb]] w fun e' w' => ∃ v, e' = .returned v ∧ SliceOut w.heap.size w' v (kindsL n o X Y 0) ∧ Below w.heap.size w w' := by
  have b0 : Below w.heap.size w (w.alloc (.cells #[.int .i64 n, .int .i64 o, .slice A la ca, .slice B lb cb] 28)) := (Below.refl _ _).alloc (Nat.le_refl _) _
  have HX := Lib.hid (hX.next b0)
  have HY := Lib.hid (hY.next b0)
  have B0 := Lib.hid b0
  clear hX hY b0
  go_enter Try.func28, Try.ntmps28
  go_wp2_with (go_at_call 62; refine (l3All_any _ 0 _ _ _ _ _ _ _ _ X Y _ rfl (by decide) HX.out HY.out hla hlb hca hcb).mono ?_; rintro e1 w1 ⟨v, rfl, ho, hb1⟩)
  go_ret
  exact ⟨v, rfl, ho.down (by simp), below_step B0.out hb1⟩

set_option maxHeartbeats 1000000 in
theorem skind1_any (n o : Int) (A B : Option Addr) (la ca lb cb : Nat) (X Y : List Int) (w : World) (hX : Ints w w.heap.size A la X) (hY : Ints w w.heap.size B lb Y) (hla : la ≤ 9223372036854775807) (hlb : lb ≤ 9223372036854775807) (hca : la ≤ ca) (hcb : lb ≤ cb) :
    Calls Try.prog 32 #[.agg #[.int .i64 n, .int .i64 o, .slice A la ca, .slice B lb cb]] w fun e' w' => ∃ v, e' = .returned v ∧ SliceOut w.heap.size w' v (kindsL n o X Y 1) ∧ Below w.heap.size w w' := by
  have b0 : Below w.heap.size w (w.alloc (.cells #[.int .i64 n, .int .i64 o, .slice A la ca, .slice B lb cb] 28)) := (Below.refl _ _).alloc (Nat.le_refl _) _
  have HX := Lib.hid (hX.next b0)
  have HY := Lib.hid (hY.next b0)
  have B0 := Lib.hid b0
  clear hX hY b0
  go_enter Try.func32, Try.ntmps32
  go_wp2_with (go_at_call 62; refine (l3All_any _ 1 _ _ _ _ _ _ _ _ X Y _ rfl (by decide) HX.out HY.out hla hlb hca hcb).mono ?_; rintro e1 w1 ⟨v, rfl, ho, hb1⟩)
  go_ret
  exact ⟨v, rfl, ho.down (by simp), below_step B0.out hb1⟩

set_option maxHeartbeats 1000000 in
theorem skind2_any (n o : Int) (A B : Option Addr) (la ca lb cb : Nat) (X Y : List Int) (w : World) (hX : Ints w w.heap.size A la X) (hY : Ints w w.heap.size B lb Y) (hla : la ≤ 9223372036854775807) (hlb : lb ≤ 9223372036854775807) (hca : la ≤ ca) (hcb : lb ≤ cb) :
    Calls Try.prog 34 #[.agg #[.int .i64 n, .int .i64 o, .slice A la ca, .slice B lb cb]] w fun e' w' => ∃ v, e' = .returned v ∧ SliceOut w.heap.size w' v (kindsL n o X Y 2) ∧ Below w.heap.size w w' := by
  have b0 : Below w.heap.size w (w.alloc (.cells #[.int .i64 n, .int .i64 o, .slice A la ca, .slice B lb cb] 28)) := (Below.refl _ _).alloc (Nat.le_refl _) _
  have HX := Lib.hid (hX.next b0)
  have HY := Lib.hid (hY.next b0)
  have B0 := Lib.hid b0
  clear hX hY b0
  go_enter Try.func34, Try.ntmps34
  go_wp2_with (go_at_call 62; refine (l3All_any _ 2 _ _ _ _ _ _ _ _ X Y _ rfl (by decide) HX.out HY.out hla hlb hca hcb).mono ?_; rintro e1 w1 ⟨v, rfl, ho, hb1⟩)
  go_ret
  exact ⟨v, rfl, ho.down (by simp), below_step B0.out hb1⟩

set_option maxHeartbeats 1000000 in
theorem skind3_any (n o : Int) (A B : Option Addr) (la ca lb cb : Nat) (X Y : List Int) (w : World) (hX : Ints w w.heap.size A la X) (hY : Ints w w.heap.size B lb Y) (hla : la ≤ 9223372036854775807) (hlb : lb ≤ 9223372036854775807) (hca : la ≤ ca) (hcb : lb ≤ cb) :
    Calls Try.prog 36 #[.agg #[.int .i64 n, .int .i64 o, .slice A la ca, .slice B lb cb]] w fun e' w' => ∃ v, e' = .returned v ∧ SliceOut w.heap.size w' v (kindsL n o X Y 3) ∧ Below w.heap.size w w' := by
  have b0 : Below w.heap.size w (w.alloc (.cells #[.int .i64 n, .int .i64 o, .slice A la ca, .slice B lb cb] 28)) := (Below.refl _ _).alloc (Nat.le_refl _) _
  have HX := Lib.hid (hX.next b0)
  have HY := Lib.hid (hY.next b0)
  have B0 := Lib.hid b0
  clear hX hY b0
  go_enter Try.func36, Try.ntmps36
  go_wp2_with (go_at_call 62; refine (l3All_any _ 3 _ _ _ _ _ _ _ _ X Y _ rfl (by decide) HX.out HY.out hla hlb hca hcb).mono ?_; rintro e1 w1 ⟨v, rfl, ho, hb1⟩)
  go_ret
  exact ⟨v, rfl, ho.down (by simp), below_step B0.out hb1⟩

end Go.Proofs.Ytocoegekdamlbaa
