
import Derived.Test.YtajoimopahibcaaMF
import Derived.Test.YtajoimopahibcaaLWF
/- The drawing side: a ring and two ideals (l4Pair), and the draws that hand them on. -/
namespace Go.Proofs.Ytajoimopahibcaa
open Go.RowKit
set_option maxRecDepth 100000

/-- An ideal as it was drawn: a list of the call's own, of up to 17 numbers. -/
def Dr (D : Nat) (w : World) (v : Value) : Prop := ∃ L, SliceOut D w v L ∧ L.length ≤ 17
theorem Dr.shape {D : Nat} {w : World} {v : Value} (h : Dr D w v) : ∃ (A : Option Addr) (n c : Nat), v = .slice A n c := by
  obtain ⟨L, ⟨A, l, c, e, _⟩, _⟩ := h
  exact ⟨A, l, c, e⟩
theorem Dr.lower {D D' : Nat} {w : World} {v : Value} (h : Dr D w v) (hD : D' ≤ D) : Dr D' w v := by
  obtain ⟨L, h1, h2⟩ := h
  exact ⟨L, h1.down hD, h2⟩
theorem Dr.next {D : Nat} {w w' : World} {v : Value} (h : Dr D w v) (hb : Below w.heap.size w w') : Dr D w' v := by
  obtain ⟨L, h1, h2⟩ := h
  exact ⟨L, h1.next hb, h2⟩
theorem Dr.wkT {g D : Nat} {T : Nat → Option Obj} {w w' : World} {v : Value} (h : Dr D w v) (hw : WkT g T w w') (hg : g < D) (hT : ∀ k, D ≤ k → T k = none) : Dr D w' v := by
  obtain ⟨L, ⟨A, l, c, e, h1, h2⟩, h3⟩ := h
  exact ⟨L, ⟨A, l, c, e, h1.wkT hw hg hT, h2⟩, h3⟩
theorem Dr.wk {g D : Nat} {w w' : World} {v : Value} (h : Dr D w v) (hw : Wk g w w') (hg : g < D) : Dr D w' v := h.wkT (T := fun _ => none) (WkT.of hw) hg (fun _ _ => rfl)
/-- What the last statement of l4Pair draws. -/
structure P4Phi (D b : Nat) (cs : Array Value) (i : Nat) (v : Value) (w : World) : Prop where
  c : i = 4 → Dr D w v
  s : i = 5 → Blk w b 25 cs
structure P4Sh (i : Nat) (v : Value) : Prop where
  c : i = 4 → ∃ (A : Option Addr) (n c : Nat), v = .slice A n c
theorem P4Sh_zero (i : Nat) : P4Sh i (.slice none 0 0) := ⟨fun _ => ⟨none, 0, 0, rfl⟩⟩

set_option maxHeartbeats 4000000 in
theorem l4Pair_any (g k : Nat) (w : World) (hr : Rdr w g k) (hk : k ≤ 1125899906840000) :
    Calls Try.prog 43 #[.pointer (some ⟨g, 0, none⟩)] w fun e w' => ∃ v v1 v2 : Value, e = .returned (.tuple #[v, v1, v2]) ∧ AnyR w.heap.size w' v ∧ Dr w.heap.size w' v1 ∧ Dr w.heap.size w' v2 ∧ Wk g w w' ∧ Rdr w' g (k + 800) := by
  have hg := hr.lt
  have nK : w.heap.size ≠ g := by omega
  obtain ⟨w1, hW⟩ : ∃ W, w.alloc (.cells #[.int .i64 0, .int .i64 0, .slice none 0 0, .slice none 0 0] 25) = W := ⟨_, rfl⟩
  have bW : Below w.heap.size w w1 := by subst hW; exact (Below.refl _ _).alloc (Nat.le_refl _) _
  have K1 := Lib.hid (show Blk w1 w.heap.size 25 #[.int .i64 0, .int .i64 0, .slice none 0 0, .slice none 0 0] by subst hW; exact Blk.new w _ _)
  have X1 := Lib.hid (Below.wk (g := g) bW)
  have R1 := Lib.hid (hr.next bW)
  clear bW hr
  go_enter Try.func43, Try.ntmps43
  go_upto_region 1 with (fail)
  clear hW
  go_wp2_with (fail)
  refine (l1Some_any g k w1 R1.out (by omega)).mono ?_
  rintro e w2 ⟨v, rfl, hA, hw2, hr2⟩
  have F2 := hA
  obtain ⟨n2, o2, A2, B2, q2, ca2, cb2, X2, Y2, rfl, hOX, hOY, hq1, hq2, hq3, hq4⟩ := hA.data
  have s1 := X1.out.size
  have s2 := hw2.size
  have K2 := K1.out.wk hw2 nK
  have X2 := X1.out.trans hw2
  clear hA
  go_upto_region 2 with (fail)
  obtain ⟨V, hV⟩ : ∃ V, w2.alloc (.cells #[.int .i64 n2, .int .i64 o2, .slice A2 q2 ca2, .slice B2 q2 cb2] 25) = V := ⟨_, rfl⟩
  have bV : Below w2.heap.size w2 V := by subst hV; exact (Below.refl _ _).alloc (Nat.le_refl _) _
  obtain ⟨bx, hbx⟩ : ∃ b, b = w2.heap.size := ⟨_, rfl⟩
  have lD : g < w1.heap.size := R1.out.lt
  have lK : w.heap.size < w1.heap.size := K1.out.lt
  have nB : bx ≠ g := by omega
  have nBK : bx ≠ w.heap.size := by omega
  have KB3 := Lib.hid (show Blk V bx 25 #[.int .i64 n2, .int .i64 o2, .slice A2 q2 ca2, .slice B2 q2 cb2] by subst hV hbx; exact Blk.new w2 _ _)
  have K3 := Lib.hid (K2.next bV)
  have X3 := Lib.hid (X2.trans (Below.wk bV))
  have R3 := Lib.hid (hr2.next bV)
  have F3 := Lib.hid (F2.next bV)
  have OX3 := Lib.hid (hOX.next bV)
  have OY3 := Lib.hid (hOY.next bV)
  have lV1 : w1.heap.size ≤ V.heap.size := Nat.le_trans hw2.size bV.size
  rw [← hbx, hV]
  clear hV bV hbx K2 X2 hr2 F2 hw2 s1 s2 hOX hOY
  have c0 := KB3.out.cell 0
  have c1 := KB3.out.cell 1
  have c2 := KB3.out.cell 2
  have c3 := KB3.out.cell 3
  simp at c0 c1 c2 c3
  go_wp2_with (fail)
  refine (l4Draw_any g (k + 40) w1.heap.size n2 o2 A2 B2 q2 ca2 cb2 _ _ V R3.out (by omega) OX3.out OY3.out hq2 hq3 hq4).mono ?_
  rintro e w4 ⟨va, La, rfl, ha, hal, hw4, hr4⟩
  obtain ⟨Aa, na, ca, rfl, _⟩ := id ha
  have HA4 := Lib.hid (show Dr w1.heap.size w4 (.slice Aa na ca) from ⟨La, ha.down lV1, hal⟩)
  have K4 := Lib.hid (K3.out.wk hw4 nK)
  have X4 := Lib.hid (X3.out.trans hw4)
  have R4 := Lib.hid hr4
  have F4 := Lib.hid (F3.out.wk hw4 lD)
  have OX4 := Lib.hid (OX3.out.wk hw4 lD)
  have OY4 := Lib.hid (OY3.out.wk hw4 lD)
  have KB4 := Lib.hid (KB3.out.wk hw4 nB)
  have lV4 : w1.heap.size ≤ w4.heap.size := Nat.le_trans lV1 hw4.size
  clear hw4 hr4 ha hal
  clear c0 c1 c2 c3
  go_upto_region 3 with (fail)
  refine wp_region_makersR (WkT g (goal1 w.heap.size #[.int .i64 n2, .int .i64 o2, .slice A2 q2 ca2, .slice B2 q2 cb2])) (RdG g ((k + 44) + 700)) 7 (fun i => i == 4 || i == 5) (P4Phi w1.heap.size w.heap.size #[.int .i64 n2, .int .i64 o2, .slice A2 q2 ca2, .slice B2 q2 cb2]) P4Sh (fun _ => .slice none 0 0) probe (by kernel_rfl) (by kernel_rfl)
    (fun w => WkT.refl w) (fun _ _ _ h h' => h.trans h') (fun _ _ h => h.less) (WkT.of (Wk.refl g _).drew) ⟨(k + 44), by omega, R4.out.next (Below.refl _ _).drew⟩ (fun _ _ _ _ h hw => ⟨fun e => (h.c e).wkT hw lD (fun k hk => goal1_none (by omega)), fun e => WkT.done (h.s e) hw nK goal1_at⟩) (fun _ _ _ _ h => ⟨fun e => (h.c e).shape⟩) (fun i _ => P4Sh_zero i) ?_
  intro W2 hW2 vs2 hvs2
  obtain ⟨Ab, nb, cb, ep⟩ := ((hvs2 4 rfl).c rfl)
  have cW : ∃ x, extCR (WkT g (goal1 w.heap.size #[.int .i64 n2, .int .i64 o2, .slice A2 q2 ca2, .slice B2 q2 cb2])) W2 x := ⟨W2, extCR_of (WkT.refl W2)⟩
  have KB4 := WkT.blk KB4.out hW2 nB (goal1_none nBK)
  have x0 := KB4.allT (T := goal1 w.heap.size #[.int .i64 n2, .int .i64 o2, .slice A2 q2 ca2, .slice B2 q2 cb2]) nB (goal1_none nBK) 0
  have x1 := KB4.allT (T := goal1 w.heap.size #[.int .i64 n2, .int .i64 o2, .slice A2 q2 ca2, .slice B2 q2 cb2]) nB (goal1_none nBK) 1
  have x2 := KB4.allT (T := goal1 w.heap.size #[.int .i64 n2, .int .i64 o2, .slice A2 q2 ca2, .slice B2 q2 cb2]) nB (goal1_none nBK) 2
  have x3 := KB4.allT (T := goal1 w.heap.size #[.int .i64 n2, .int .i64 o2, .slice A2 q2 ca2, .slice B2 q2 cb2]) nB (goal1_none nBK) 3
  simp at x0 x1 x2 x3
  simp only [List.take_succ_cons, List.take_zero, List.drop_succ_cons, List.drop_zero]
  refine wpV_quietR cW 4 0 _ _ (by decide) (by decide) (fun o ho => plain_noEnter (List.all_eq_true.1 (by rfl) o ho)) ?_
  simp only [List.take_succ_cons, List.take_zero, List.drop_succ_cons, List.drop_zero]
  repeat (go_big_quiet_step (fail))
  refine wpQuiet_nil ?_
  refine wpV_make_R rfl rfl (fun x fu hx hI _ => ?_) ?_
  · obtain ⟨ux, rfl⟩ := hx
    obtain ⟨jj, hj1, hj2⟩ := hI
    have hwx := hW2.trans (extR_rel _ _ ux)
    have lx := hwx.size
    unfold makesAtR
    go_simp
    refine ⟨rfl, (l4Draw_any g jj w1.heap.size n2 o2 A2 B2 q2 ca2 cb2 _ _ _ hj2 (by omega) (OX4.out.wkT hwx lD (fun k hk => goal1_none (by omega))) (OY4.out.wkT hwx lD (fun k hk => goal1_none (by omega))) hq2 hq3 hq4).mono ?_⟩
    rintro _ x' ⟨z, Lz, rfl, hz, hzl, hw', hr'⟩
    exact ⟨_, rfl, WkT.of hw', ⟨jj + 4, by omega, hr'⟩, ⟨fun _ => ⟨Lz, hz.down (Nat.le_trans lV4 lx), hzl⟩, fun e => absurd e (by decide)⟩⟩
  rw [ep]
  go_simp
  refine wpV_make_R rfl rfl (fun x fu hx hI _ => ?_) ?_
  · obtain ⟨ux, rfl⟩ := hx
    obtain ⟨jj, hj1, hj2⟩ := hI
    rcases WkT.goal K4.out (hW2.trans (extR_rel _ _ ux)) nK goal1_at with hz | hz
    all_goals
      unfold makesAtR
      rw [run_store4 _ _ rfl rfl rfl hz]
      exact ⟨WkT.store hz goal1_at, ⟨jj, by omega, hj2.store hz (noByte4 _ _ _ _ _ _ _ _) nK⟩, ⟨fun e => absurd e (by decide), fun _ => store4_blk hz⟩⟩
  go_simp
  refine wpV_quietR cW 1 _ _ _ (by decide) (by decide) (fun o ho => plain_noEnter (List.all_eq_true.1 (by rfl) o ho)) ?_
  simp only [List.take_succ_cons, List.take_zero, List.drop_succ_cons, List.drop_zero]
  repeat (go_big_quiet_step (fail))
  refine wpQuiet_nil ?_
  refine wpV_nilR ?_
  intro w9 hw9 hI9 hf9
  have HB9 := Lib.hid (show Dr w1.heap.size w9 (.slice Ab nb cb) by rw [← ep]; exact (hf9 4 (by omega) (by decide)).c rfl)
  have HA9 := Lib.hid (HA4.out.wkT hw9 lD (fun k hk => goal1_none (by omega)))
  have K9 := Lib.hid ((hf9 5 (by omega) (by decide)).s rfl)
  have X9 := Lib.hid (X4.out.onT hw9 (fun k hk => goal1_none (by omega)))
  have R9 := Lib.hid hI9.rdr
  have F9 := Lib.hid (F4.out.wkT hw9 lD (fun k hk => goal1_none (by omega)))
  clear hw9 hI9 hvs2 hf9 x0 x1 x2 x3 cW hW2 KB4 ep
  go_wp2_with (fail)
  refine bodyPost_ret (v := .tuple #[.agg #[.int .i64 n2, .int .i64 o2, .slice A2 q2 ca2, .slice B2 q2 cb2], .slice Aa na ca, .slice Ab nb cb]) ?_ rfl ⟨_, _, _, rfl, F9.out.lower (Nat.le_of_lt lK), HA9.out.lower (Nat.le_of_lt lK), HB9.out.lower (Nat.le_of_lt lK), X9.out, R9.out.more (by omega)⟩
  exact results_cell_two (fn := Try.f43) rfl _ _ w.heap.size 25 _ _ _ _ rfl rfl rfl K9.out Try.underlying25 rfl (by kernel_rfl)

end Go.Proofs.Ytajoimopahibcaa

