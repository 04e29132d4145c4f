
import Derived.Test.YtcbodedpahdobaaMW
/- The walk of the law FnExactThenMap, whatever the function hands back, if both sides hand back the same. -/
namespace Go.Proofs.Ytcbodedpahdobaa
open Go.RowKit
set_option maxRecDepth 100000

set_option maxHeartbeats 8000000 in
theorem fnExactThenMap_walk (F0 : Option Addr) (f0 cf0 : Nat) (X0 : List Int) (F1 : Option Addr) (f1 cf1 : Nat) (X1 : List Int) (Z : List Int) (ok : Bool) (w : World) (hF0 : Ints w w.heap.size F0 f0 X0) (hf0 : f0 ≤ 9223372036854775807) (hF1 : Ints w w.heap.size F1 f1 X1) (hf1 : f1 ≤ 9223372036854775807) 
    (hS0 : ∀ (F0 : Option Addr) (F1 : Option Addr) (w : World),Ints w w.heap.size F0 f0 X0 → Ints w w.heap.size F1 f1 X1 → f0 ≤ 1048576 → f1 ≤ 1048576 → Calls Try.prog 50 #[.slice F0 f0 f0, .slice F1 f1 f1] w fun e w' => ∃ v, e = .returned (.tuple #[v, .bool ok]) ∧ SliceOutM w.heap.size w' v Z ∧ Below w.heap.size w w')
    (hI0 : ∀ (F0 : Option Addr) (F1 : Option Addr) (w : World),Ints w w.heap.size F0 f0 X0 → Ints w w.heap.size F1 f1 X1 → f0 ≤ 1048576 → f1 ≤ 1048576 → Calls Try.prog 51 #[.slice F0 f0 f0, .slice F1 f1 f1] w fun e w' => ∃ v, e = .returned (.tuple #[v, .bool ok]) ∧ SliceOutM w.heap.size w' v Z ∧ Below w.heap.size w w') :
    Calls Try.prog 11 #[.slice F0 f0 cf0, .slice F1 f1 cf1] w fun e w' => e = .returned (.bool true) ∧ Below w.heap.size w w' := by
  have hS := Lib.hid hS0
  have hI := Lib.hid hI0
  have HF0 := Lib.hid hF0
  have HF1 := Lib.hid hF1
  clear hS0 hI0 hF0 hF1
  have BB := Lib.hid (Below.refl w.heap.size w)
  by_cases hz0 : f0 ≤ 1048576
  rotate_left
  · have hy : (1048576 : Int) < (f0 : Int) := by omega
    go_enter Try.func11, Try.ntmps11
    go_wp2
    go_ret
    exact ⟨rfl, BB.out⟩
  have hzz0 : ¬ (1048576 : Int) < (f0 : Int) := by omega
  have hzw0 : (f0 : Int) ≤ 1048576 := by omega
  by_cases hz1 : f1 ≤ 1048576
  rotate_left
  · have hy : (1048576 : Int) < (f1 : Int) := by omega
    go_enter Try.func11, Try.ntmps11
    go_wp2
    go_ret
    exact ⟨rfl, BB.out⟩
  have hzz1 : ¬ (1048576 : Int) < (f1 : Int) := by omega
  have hzw1 : (f1 : Int) ≤ 1048576 := by omega
  go_enter Try.func11, Try.ntmps11
  go_wp2_with (fail)
  refine (toIntS_any F0 f0 cf0 X0 w (HF0.out.next BB.out) hz0).mono ?_
  rintro e w1 ⟨rfl, ow1, hb⟩
  have L0s := Lib.hid (own_of_row ow1 HF0.out.1)
  have hl0s := (ow1.lt w.heap.size rfl).2
  have BB := Lib.hid (below_step BB.out hb)
  have sw1 := hb.size
  clear hb ow1
  go_wp2_with (fail)
  refine (toIntS_any F1 f1 cf1 X1 w1 (HF1.out.next BB.out) hz1).mono ?_
  rintro e w2 ⟨rfl, ow1, hb⟩
  have L1s := Lib.hid (own_of_row ow1 HF1.out.1)
  have hl1s := (ow1.lt w1.heap.size rfl).2
  have L0s := Lib.hid (L0s.out.next hb); have BB := Lib.hid (below_step BB.out hb)
  have sw2 := hb.size
  clear hb ow1
  go_wp2_with (fail)
  refine (hS.out _ _ w2 L0s.out.ints L1s.out.ints hz0 hz1).mono ?_
  rintro e w3 ⟨v3, rfl, ⟨A3, l3, c3x, rfl, oA3, _, hl3⟩, hb⟩
  have SA0 := Lib.hid oA3.ints
  have el3 := oA3.1
  have BB := Lib.hid (below_step BB.out hb)
  have CC := Lib.hid (Below.refl w3.heap.size w3)
  have sw3 := hb.size
  clear hb oA3
  have kw3 : w.heap.size ≤ w3.heap.size := by omega
  go_wp2_with (fail)
  refine (toIntS_any F0 f0 cf0 X0 w3 (HF0.out.next BB.out) hz0).mono ?_
  rintro e w4 ⟨rfl, ow1, hb⟩
  have L0i := Lib.hid (own_of_row ow1 HF0.out.1)
  have hl0i := (ow1.lt w3.heap.size rfl).2
  have BB := Lib.hid (below_step BB.out hb); have CC := Lib.hid (below_step CC.out hb)
  have sw4 := hb.size
  clear hb ow1
  go_wp2_with (fail)
  refine (toIntS_any F1 f1 cf1 X1 w4 (HF1.out.next BB.out) hz1).mono ?_
  rintro e w5 ⟨rfl, ow1, hb⟩
  have L1i := Lib.hid (own_of_row ow1 HF1.out.1)
  have hl1i := (ow1.lt w4.heap.size rfl).2
  have L0i := Lib.hid (L0i.out.next hb); have BB := Lib.hid (below_step BB.out hb); have CC := Lib.hid (below_step CC.out hb)
  have sw5 := hb.size
  clear hb ow1
  go_wp2_with (fail)
  refine (hI.out _ _ w5 L0i.out.ints L1i.out.ints hz0 hz1).mono ?_
  rintro e w6 ⟨v6, rfl, ⟨A6, l6, c6, rfl, oA6, _, hl6⟩, hb⟩
  have L0i := Lib.hid (L0i.out.next hb); have L1i := Lib.hid (L1i.out.next hb); have BB := Lib.hid (below_step BB.out hb); have CC := Lib.hid (below_step CC.out hb)
  have sw6 := hb.size
  have GA := Lib.hid oA6
  have el6 : l6 = l3 := by rw [← oA6.1, el3]
  subst el6
  clear hb oA6
  have tok : (ok != ok) = false := by simp
  go_wp2_with (go_at_call 39; (with_reducible refine (eqIntS_same A6 A3 l6 c6 c3x Z _ _ _ GA.out.ints (SA0.out.next CC.out) (by omega)).mono ?_); rintro e w7 ⟨rfl, hbw7⟩; have L0i := Lib.hid (L0i.out.next hbw7); have L1i := Lib.hid (L1i.out.next hbw7); have GA := Lib.hid (GA.out.next hbw7); have BB := Lib.hid (below_step BB.out hbw7); have CC := Lib.hid (below_step CC.out hbw7); have sw7 := hbw7.size; clear hbw7)
  go_wp2_with (fail)
  refine (toIntS_any F0 f0 cf0 X0 w7 (HF0.out.next BB.out) hz0).mono ?_
  rintro e w8 ⟨rfl, ow1, hb⟩
  have E0 := Lib.hid (own_of_row ow1 HF0.out.1)
  have L0i := Lib.hid (L0i.out.next hb); have L1i := Lib.hid (L1i.out.next hb); have GA := Lib.hid (GA.out.next hb); have BB := Lib.hid (below_step BB.out hb); have CC := Lib.hid (below_step CC.out hb)
  have sw8 := hb.size
  clear hb ow1
  go_wp2_with (fail)
  refine (eqIntS_same _ _ f0 f0 f0 X0 w8 _ _ L0i.out.ints E0.out.ints (by omega)).mono ?_
  rintro e w9 ⟨rfl, hb⟩
  have L0i := Lib.hid (L0i.out.next hb); have L1i := Lib.hid (L1i.out.next hb); have GA := Lib.hid (GA.out.next hb); have BB := Lib.hid (below_step BB.out hb); have CC := Lib.hid (below_step CC.out hb)
  have sw9 := hb.size
  clear hb
  go_wp2_with (fail)
  refine (toIntS_any F1 f1 cf1 X1 w9 (HF1.out.next BB.out) hz1).mono ?_
  rintro e w10 ⟨rfl, ow1, hb⟩
  have E1 := Lib.hid (own_of_row ow1 HF1.out.1)
  have L0i := Lib.hid (L0i.out.next hb); have L1i := Lib.hid (L1i.out.next hb); have GA := Lib.hid (GA.out.next hb); have BB := Lib.hid (below_step BB.out hb); have CC := Lib.hid (below_step CC.out hb)
  have sw10 := hb.size
  clear hb ow1
  go_wp2_with (fail)
  refine (eqIntS_same _ _ f1 f1 f1 X1 w10 _ _ L1i.out.ints E1.out.ints (by omega)).mono ?_
  rintro e w11 ⟨rfl, hb⟩
  have L0i := Lib.hid (L0i.out.next hb); have L1i := Lib.hid (L1i.out.next hb); have GA := Lib.hid (GA.out.next hb); have BB := Lib.hid (below_step BB.out hb); have CC := Lib.hid (below_step CC.out hb)
  have sw11 := hb.size
  clear hb
  have kv : w3.heap.size ≤ w5.heap.size := by omega
  go_wp2_with (fail)
  refine (markIntS_any _ f0 f0 X0 (1) w11 w3.heap.size (L0i.out.down (by omega)) hz0 (by omega) (by omega)).mono ?_
  rintro e w12 ⟨rfl, _, but, hb⟩
  have sw12 := hb.size
  have GA := Lib.hid (GA.out.markedI but (by omega))
  have L1i := Lib.hid (L1i.out.markedI but (by omega))
  have BB := Lib.hid (BB.out.trans (hb.mono kw3))
  have CC := Lib.hid (CC.out.trans hb)
  clear but hb
  go_wp2_with (fail)
  refine (markIntS_any _ f1 f1 X1 (1 + f0) w12 w3.heap.size (L1i.out.down (by omega)) hz1 (by omega) (by omega)).mono ?_
  rintro e w13 ⟨rfl, _, but, hb⟩
  have sw13 := hb.size
  have GA := Lib.hid (GA.out.markedI but (by omega))
  have BB := Lib.hid (BB.out.trans (hb.mono kw3))
  have CC := Lib.hid (CC.out.trans hb)
  clear but hb
  have tneg : ((1 + f0 + f1 : Int) < 0) = False := by simp; omega
  go_wp2_with (go_at_call 39; (with_reducible refine (eqIntS_same A6 A3 l6 c6 c3x Z _ _ _ GA.out.ints (SA0.out.next CC.out) (by omega)).mono ?_); rintro e w14 ⟨rfl, hbw14⟩; have GA := Lib.hid (GA.out.next hbw14); have BB := Lib.hid (below_step BB.out hbw14); have CC := Lib.hid (below_step CC.out hbw14); have sw14 := hbw14.size; clear hbw14)
  go_wp2_with (fail)
  refine (markIntS_any A6 l6 c6 Z 1 w14 w5.heap.size GA.out (by omega) (by omega) (by omega)).mono ?_
  rintro e w15 ⟨rfl, mA, _, hb⟩
  have sw15 := hb.size
  have MA := Lib.hid mA
  have BB := Lib.hid (BB.out.trans (hb.mono (by omega)))
  have CC := Lib.hid (CC.out.trans (hb.mono kv))
  clear mA hb
  have tn : ((1 : Int) + l6 != 1 + l6) = false := by simp
  have tneg2 : ¬ ((1 : Int) + l6 < 0) := by omega
  go_wp2_with (go_at_call 41; (with_reducible refine (heldIntS_any A6 l6 c6 (markL Z l6 1 l6) 1 w15 _ MA.out.ints held_mark (by omega) (by omega) (by omega)).mono ?_); rintro e w99 ⟨rfl, rfl⟩)
  refine (toIntS_any F0 f0 cf0 X0 w15 (HF0.out.next BB.out) hz0).mono ?_
  rintro e w16 ⟨rfl, ow1, hb⟩
  have L0j := Lib.hid (own_of_row ow1 HF0.out.1)
  have hl0j := (ow1.lt w15.heap.size rfl).2
  have MA := Lib.hid (MA.out.next hb); have BB := Lib.hid (below_step BB.out hb); have CC := Lib.hid (below_step CC.out hb)
  have sw16 := hb.size
  clear hb ow1
  go_wp2_with (fail)
  refine (toIntS_any F1 f1 cf1 X1 w16 (HF1.out.next BB.out) hz1).mono ?_
  rintro e w17 ⟨rfl, ow1, hb⟩
  have L1j := Lib.hid (own_of_row ow1 HF1.out.1)
  have hl1j := (ow1.lt w16.heap.size rfl).2
  have MA := Lib.hid (MA.out.next hb); have L0j := Lib.hid (L0j.out.next hb); have BB := Lib.hid (below_step BB.out hb); have CC := Lib.hid (below_step CC.out hb)
  have sw17 := hb.size
  clear hb ow1
  go_wp2_with (fail)
  refine (hI.out _ _ w17 L0j.out.ints L1j.out.ints hz0 hz1).mono ?_
  rintro e w18 ⟨v9, rfl, ⟨A9, l9, c9, rfl, oA9, _, hl9⟩, hb⟩
  have G9 := Lib.hid oA9.ints
  have el9 : l9 = l6 := by rw [← oA9.1, el3]
  subst el9
  have MA := Lib.hid (MA.out.next hb); have BB := Lib.hid (below_step BB.out hb); have CC := Lib.hid (below_step CC.out hb)
  have sw18 := hb.size
  clear hb oA9
  go_wp2_with (first
    | (go_at_call 39; (with_reducible refine (eqIntS_same A9 A3 l9 c9 c3x Z _ _ _ G9.out (SA0.out.next CC.out) (by omega)).mono ?_); rintro e w19 ⟨rfl, hb⟩; have MA := Lib.hid (MA.out.next hb); have BB := Lib.hid (below_step BB.out hb); have CC := Lib.hid (below_step CC.out hb); clear hb)
    | (go_at_call 41; (with_reducible refine (heldIntS_any A6 l9 c6 (markL Z l9 1 l9) 1 w19 _ MA.out.ints held_mark (by omega) (by omega) (by omega)).mono ?_); rintro e w98 ⟨rfl, rfl⟩))
  go_ret
  exact ⟨rfl, BB.out⟩

end Go.Proofs.Ytcbodedpahdobaa
