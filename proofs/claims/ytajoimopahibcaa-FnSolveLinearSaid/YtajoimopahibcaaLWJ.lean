
import Derived.Test.YtajoimopahibcaaMF
/- The drawing side: the arguments of SolveLinear. -/
namespace Go.Proofs.Ytajoimopahibcaa
open Go.RowKit
set_option maxRecDepth 100000

set_option maxHeartbeats 4000000 in
theorem drawSolveLinear_any (A : Option Addr) (n c : Nat) (w : World) (hb : Byts w w.heap.size A n) (hn : n ≤ 1048576) (hc : n ≤ c) (hc2 : c ≤ 9223372036854775807) :
    Calls Try.prog 5 #[.slice A n c] w fun e w' => ∃ (v : Value) (a b : Int), e = .returned (.tuple #[v, .int .i64 a, .int .i64 b]) ∧ AnyR w.heap.size w' v ∧ Wrd a ∧ Wrd b ∧ Below w.heap.size w w' := by
  obtain ⟨W, hW⟩ : ∃ W, w.alloc (.cells #[.int .i64 0, .int .i64 0, .slice none 0 0, .slice none 0 0] 25) = W := ⟨_, rfl⟩
  have hs : W.heap.size = w.heap.size + 1 := by subst hW; simp
  have bW : Below w.heap.size w W := by subst hW; exact (Below.refl _ _).alloc (Nat.le_refl _) _
  have K0 := Lib.hid (show Blk W w.heap.size 25 #[.int .i64 0, .int .i64 0, .slice none 0 0, .slice none 0 0] by subst hW; exact Blk.new w _ _)
  have HB := Lib.hid (hb.grow bW)
  have B0 := Lib.hid bW
  clear bW
  go_enter Try.func5, Try.ntmps5
  go_upto_region 1 with (fail)
  clear hW
  go_wp2_with (fail)
  refine (l13Open_any A n c W HB.out (by omega) hc hc2).mono ?_
  rintro e w1 ⟨rfl, hb1, hr1, hlt1⟩
  obtain ⟨g, hg⟩ : ∃ g, W.heap.size = g := ⟨_, rfl⟩
  rw [hg] at hr1 hlt1 ⊢
  have hgw : w.heap.size < g := by omega
  have K1 := Lib.hid (K0.out.below hb1 (by omega))
  have B1 := Lib.hid (B0.out.trans (hb1.mono (by omega)))
  have R1 := Lib.hid hr1
  clear hb1 hr1 hg hs
  go_wp2_with (fail)
  refine (l1Two_any g 0 w1 R1.out (by omega)).mono ?_
  rintro e w2 ⟨v, a, b, rfl, hA, ha, hb, hw2, hr2⟩
  have F2 := hA
  obtain ⟨n2, o2, A2, B2, q2, ca2, cb2, X2, Y2, rfl, _, _, _⟩ := hA.data
  have F2 := Lib.hid F2
  have K2 := Lib.hid (K1.out.wk hw2 (by omega))
  have X2 := Lib.hid (B1.out.trans (hw2.below (B := w.heap.size) (Nat.le_of_lt hgw) B1.out.size))
  have S2 := Lib.hid (show w.heap.size < w1.heap.size from by omega)
  clear hw2 hr2 hA
  have d0 := K2.out.cell 0
  have d1 := K2.out.cell 1
  have d2 := K2.out.cell 2
  have d3 := K2.out.cell 3
  have f0 := K2.out.frozen 0
  have f1 := K2.out.frozen 1
  have f2 := K2.out.frozen 2
  have f3 := K2.out.frozen 3
  simp at d0 d1 d2 d3
  go_wp2_with (fail)
  refine bodyPost_ret (v := .tuple #[.agg #[.int .i64 n2, .int .i64 o2, .slice A2 q2 ca2, .slice B2 q2 cb2], .int .i64 a, .int .i64 b]) ?_ rfl ⟨_, a, b, rfl, (F2.out.store S2.out).lower (Nat.le_of_lt S2.out), ha, hb, store4_below X2.out (Nat.le_refl _)⟩
  exact results_cell_two (fn := Try.f5) rfl _ _ w.heap.size 25 _ _ _ _ rfl rfl rfl (store4_blk K2.out) Try.underlying25 rfl (by kernel_rfl)

end Go.Proofs.Ytajoimopahibcaa

