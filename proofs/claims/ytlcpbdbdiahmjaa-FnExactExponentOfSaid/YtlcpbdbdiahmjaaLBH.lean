
import Derived.Test.YtlcpbdbdiahmjaaMB
/- The walk of the law FnExactExponentOf, whatever the function hands back, if both sides hand back the same. -/
namespace Go.Proofs.Ytlcpbdbdiahmjaa
open Go.RowKit
set_option maxRecDepth 100000

set_option maxHeartbeats 8000000 in
theorem fnExactExponentOf_walk (F0 : Option Addr) (f0 cf0 : Nat) (X0 : List Int) (z : Int) (w : World) (hF0 : Ints w w.heap.size F0 f0 X0) (hf0 : f0 ≤ 9223372036854775807) 
    (hS0 : ∀ (F0 : Option Addr) (w : World),Ints w w.heap.size F0 f0 X0 → Calls Try.prog 35 #[.slice F0 f0 f0] w fun e w' => e = .returned (.int .i64 z) ∧ Below w.heap.size w w')
    (hI0 : ∀ (F0 : Option Addr) (w : World),Ints w w.heap.size F0 f0 X0 → Calls Try.prog 21 #[.slice F0 f0 f0] w fun e w' => e = .returned (.int .i64 z) ∧ Below w.heap.size w w') :
    Calls Try.prog 8 #[.slice F0 f0 cf0] w fun e w' => e = .returned (.bool true) ∧ Below w.heap.size w w' := by
  have hS := Lib.hid hS0
  have hI := Lib.hid hI0
  have HF0 := Lib.hid hF0
  clear hS0 hI0 hF0
  have BB := Lib.hid (Below.refl w.heap.size w)
  by_cases hz0 : f0 ≤ 1048576
  rotate_left
  · have hy : (1048576 : Int) < (f0 : Int) := by omega
    go_enter Try.func8, Try.ntmps8
    go_wp2
    go_ret
    exact ⟨rfl, BB.out⟩
  have hzz0 : ¬ (1048576 : Int) < (f0 : Int) := by omega
  have hzw0 : (f0 : Int) ≤ 1048576 := by omega
  go_enter Try.func8, Try.ntmps8
  go_wp2_with (fail)
  refine (toIntS_any F0 f0 cf0 X0 w (HF0.out.next BB.out) hz0).mono ?_
  rintro e w1 ⟨rfl, ow1, hb⟩
  have L0s := Lib.hid (own_of_row ow1 HF0.out.1)
  have hl0s := (ow1.lt w.heap.size rfl).2
  have BB := Lib.hid (below_step BB.out hb)
  have sw1 := hb.size
  clear hb ow1
  go_wp2_with (fail)
  refine (hS.out _ w1 L0s.out.ints).mono ?_
  rintro e w2 ⟨rfl, hb⟩
  have BB := Lib.hid (below_step BB.out hb)
  have CC := Lib.hid (Below.refl w2.heap.size w2)
  have sw2 := hb.size
  clear hb
  have kw3 : w.heap.size ≤ w2.heap.size := by omega
  go_wp2_with (fail)
  refine (toIntS_any F0 f0 cf0 X0 w2 (HF0.out.next BB.out) hz0).mono ?_
  rintro e w3 ⟨rfl, ow1, hb⟩
  have L0i := Lib.hid (own_of_row ow1 HF0.out.1)
  have hl0i := (ow1.lt w2.heap.size rfl).2
  have BB := Lib.hid (below_step BB.out hb); have CC := Lib.hid (below_step CC.out hb)
  have sw3 := hb.size
  clear hb ow1
  go_wp2_with (fail)
  refine (hI.out _ w3 L0i.out.ints).mono ?_
  rintro e w4 ⟨rfl, hb⟩
  have L0i := Lib.hid (L0i.out.next hb); have BB := Lib.hid (below_step BB.out hb); have CC := Lib.hid (below_step CC.out hb)
  have sw4 := hb.size
  clear hb
  have tok : (z != z) = false := by simp
  go_wp2_with (fail)
  refine (toIntS_any F0 f0 cf0 X0 w4 (HF0.out.next BB.out) hz0).mono ?_
  rintro e w5 ⟨rfl, ow1, hb⟩
  have E0 := Lib.hid (own_of_row ow1 HF0.out.1)
  have L0i := Lib.hid (L0i.out.next hb); have BB := Lib.hid (below_step BB.out hb); have CC := Lib.hid (below_step CC.out hb)
  have sw5 := hb.size
  clear hb ow1
  go_wp2_with (fail)
  refine (eqIntS_same _ _ f0 f0 f0 X0 w5 _ _ L0i.out.ints E0.out.ints (by omega)).mono ?_
  rintro e w6 ⟨rfl, hb⟩
  have L0i := Lib.hid (L0i.out.next hb); have BB := Lib.hid (below_step BB.out hb); have CC := Lib.hid (below_step CC.out hb)
  have sw6 := hb.size
  clear hb
  go_wp2
  go_ret
  exact ⟨rfl, BB.out⟩

end Go.Proofs.Ytlcpbdbdiahmjaa

