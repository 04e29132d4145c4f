
import Derived.Test.YtlcpbdbdiahmjaaMF
import Derived.Test.YtlcpbdbdiahmjaaMJ
import Derived.Test.YtlcpbdbdiahmjaaLWL
/- The drawing side: a ring and one or two polynomials. -/
namespace Go.Proofs.Ytlcpbdbdiahmjaa
open Go.RowKit
set_option maxRecDepth 100000

/-- A list as it was drawn: a list of the call's own, of up to 17 numbers. -/
def Dq (D : Nat) (w : World) (v : Value) : Prop := ∃ L, SliceOut D w v L ∧ L.length ≤ 17
theorem Dq.shape {D : Nat} {w : World} {v : Value} (h : Dq D w v) : ∃ (A : Option Addr) (n c : Nat), v = .slice A n c := by
  obtain ⟨L, ⟨A, l, c, e, _⟩, _⟩ := h
  exact ⟨A, l, c, e⟩
theorem Dq.lower {D D' : Nat} {w : World} {v : Value} (h : Dq D w v) (hD : D' ≤ D) : Dq D' w v := by
  obtain ⟨L, h1, h2⟩ := h
  exact ⟨L, h1.down hD, h2⟩
theorem Dq.next {D : Nat} {w w' : World} {v : Value} (h : Dq D w v) (hb : Below w.heap.size w w') : Dq D w' v := by
  obtain ⟨L, h1, h2⟩ := h
  exact ⟨L, h1.next hb, h2⟩
theorem Dq.wkT {g D : Nat} {T : Nat → Option Obj} {w w' : World} {v : Value} (h : Dq D w v) (hw : WkT g T w w') (hg : g < D) (hT : ∀ k, D ≤ k → T k = none) : Dq D w' v := by
  obtain ⟨L, ⟨A, l, c, e, h1, h2⟩, h3⟩ := h
  exact ⟨L, ⟨A, l, c, e, h1.wkT hw hg hT, h2⟩, h3⟩
theorem Dq.wk {g D : Nat} {w w' : World} {v : Value} (h : Dq D w v) (hw : Wk g w w') (hg : g < D) : Dq D w' v := h.wkT (T := fun _ => none) (WkT.of hw) hg (fun _ _ => rfl)
theorem Dq.store {D b : Nat} {w : World} {v v0 v1 v2 v3 : Value} (h : Dq D w v) (hb : b < D) : Dq D (store4 w b v0 v1 v2 v3) v := by
  obtain ⟨L, ⟨A, l, c, e, h1, h2⟩, h3⟩ := h
  exact ⟨L, ⟨A, l, c, e, store4_ownS h1 hb, h2⟩, h3⟩


structure SmPhi9 (D b : Nat) (cs : Array Value) (i : Nat) (v : Value) (w : World) : Prop where
  c : i = 3 → Dq D w v
  s : i = 4 → Blk w b 25 cs
structure SmSh9 (i : Nat) (v : Value) : Prop where
  c : i = 3 → ∃ (A : Option Addr) (n c : Nat), v = .slice A n c
theorem SmSh9_zero (i : Nat) : SmSh9 i (.slice none 0 0) := ⟨fun _ => ⟨none, 0, 0, rfl⟩⟩
set_option maxHeartbeats 4000000 in
theorem l9Some_any (g k : Nat) (w : World) (hr : Rdr w g k) (hk : k ≤ 1125899906840000) :
    Calls Try.prog 88 #[.pointer (some ⟨g, 0, none⟩)] w fun e w' => ∃ v v1 : Value, e = .returned (.tuple #[v, v1]) ∧ AnyR w.heap.size w' v ∧ Dq w.heap.size w' v1 ∧ Wk g w w' ∧ Rdr w' g (k + 800) := by
  have hg := hr.lt
  have nK : w.heap.size ≠ g := by omega
  obtain ⟨w1, hW⟩ : ∃ W, w.alloc (.cells #[.int .i64 0, .int .i64 0, .slice none 0 0, .slice none 0 0] 25) = W := ⟨_, rfl⟩
  have bW : Below w.heap.size w w1 := by subst hW; exact (Below.refl _ _).alloc (Nat.le_refl _) _
  have K1 := Lib.hid (show Blk w1 w.heap.size 25 #[.int .i64 0, .int .i64 0, .slice none 0 0, .slice none 0 0] by subst hW; exact Blk.new w _ _)
  have X1 := Lib.hid (Below.wk (g := g) bW)
  have R1 := Lib.hid (hr.next bW)
  clear bW hr
  go_enter Try.func88, Try.ntmps88
  go_upto_region 1 with (fail)
  clear hW
  go_wp2_with (fail)
  refine (l1Some_any g k w1 R1.out (by omega)).mono ?_
  rintro e w2 ⟨v, rfl, hA, hw2, hr2⟩
  have F2 := hA
  obtain ⟨n2, o2, A2, B2, q2, ca2, cb2, X2, Y2, rfl, hOX, hOY, hq1, hq2, hq3, hq4⟩ := hA.data
  have s1 := X1.out.size
  have s2 := hw2.size
  have K2 := K1.out.wk hw2 nK
  have X2 := X1.out.trans hw2
  clear hA
  go_upto_region 2 with (fail)
  obtain ⟨V, hV⟩ : ∃ V, w2.alloc (.cells #[.int .i64 n2, .int .i64 o2, .slice A2 q2 ca2, .slice B2 q2 cb2] 25) = V := ⟨_, rfl⟩
  have bV : Below w2.heap.size w2 V := by subst hV; exact (Below.refl _ _).alloc (Nat.le_refl _) _
  obtain ⟨bx, hbx⟩ : ∃ b, b = w2.heap.size := ⟨_, rfl⟩
  have lD : g < w1.heap.size := R1.out.lt
  have lK : w.heap.size < w1.heap.size := K1.out.lt
  have nB : bx ≠ g := by omega
  have nBK : bx ≠ w.heap.size := by omega
  have KB3 := Lib.hid (show Blk V bx 25 #[.int .i64 n2, .int .i64 o2, .slice A2 q2 ca2, .slice B2 q2 cb2] by subst hV hbx; exact Blk.new w2 _ _)
  have K3 := Lib.hid (K2.next bV)
  have X3 := Lib.hid (X2.trans (Below.wk bV))
  have R3 := Lib.hid (hr2.next bV)
  have F3 := Lib.hid (F2.next bV)
  have OX3 := Lib.hid (hOX.next bV)
  have OY3 := Lib.hid (hOY.next bV)
  have lV1 : w1.heap.size ≤ V.heap.size := Nat.le_trans hw2.size bV.size
  rw [← hbx, hV]
  clear hV bV hbx K2 X2 hr2 F2 hw2 s1 s2 hOX hOY
  have K4 := K3
  have X4 := X3
  have R4 := R3
  have F4 := F3
  have OX4 := OX3
  have OY4 := OY3
  have KB4 := KB3
  have lV4 := lV1
  refine wp_region_makersR (WkT g (goal1 w.heap.size #[.int .i64 n2, .int .i64 o2, .slice A2 q2 ca2, .slice B2 q2 cb2])) (RdG g ((k + 40) + 500)) 5 (fun i => i == 3 || i == 4) (SmPhi9 w1.heap.size w.heap.size #[.int .i64 n2, .int .i64 o2, .slice A2 q2 ca2, .slice B2 q2 cb2]) SmSh9 (fun _ => .slice none 0 0) probe (by kernel_rfl) (by kernel_rfl)
    (fun w => WkT.refl w) (fun _ _ _ h h' => h.trans h') (fun _ _ h => h.less) (WkT.of (Wk.refl g _).drew) ⟨(k + 40), by omega, R4.out.next (Below.refl _ _).drew⟩ (fun _ _ _ _ h hw => ⟨fun e => (h.c e).wkT hw lD (fun k hk => goal1_none (by omega)), fun e => WkT.done (h.s e) hw nK goal1_at⟩) (fun _ _ _ _ h => ⟨fun e => (h.c e).shape⟩) (fun i _ => SmSh9_zero i) ?_
  intro W2 hW2 vs2 hvs2
  obtain ⟨Ab, nb, cb, ep⟩ := ((hvs2 3 rfl).c rfl)
  have cW : ∃ x, extCR (WkT g (goal1 w.heap.size #[.int .i64 n2, .int .i64 o2, .slice A2 q2 ca2, .slice B2 q2 cb2])) W2 x := ⟨W2, extCR_of (WkT.refl W2)⟩
  have KB4 := WkT.blk KB4.out hW2 nB (goal1_none nBK)
  have x0 := KB4.allT (T := goal1 w.heap.size #[.int .i64 n2, .int .i64 o2, .slice A2 q2 ca2, .slice B2 q2 cb2]) nB (goal1_none nBK) 0
  have x1 := KB4.allT (T := goal1 w.heap.size #[.int .i64 n2, .int .i64 o2, .slice A2 q2 ca2, .slice B2 q2 cb2]) nB (goal1_none nBK) 1
  have x2 := KB4.allT (T := goal1 w.heap.size #[.int .i64 n2, .int .i64 o2, .slice A2 q2 ca2, .slice B2 q2 cb2]) nB (goal1_none nBK) 2
  have x3 := KB4.allT (T := goal1 w.heap.size #[.int .i64 n2, .int .i64 o2, .slice A2 q2 ca2, .slice B2 q2 cb2]) nB (goal1_none nBK) 3
  simp at x0 x1 x2 x3
  simp only [List.take_succ_cons, List.take_zero, List.drop_succ_cons, List.drop_zero]
  refine wpV_quietR cW 3 0 _ _ (by decide) (by decide) (fun o ho => plain_noEnter (List.all_eq_true.1 (by rfl) o ho)) ?_
  simp only [List.take_succ_cons, List.take_zero, List.drop_succ_cons, List.drop_zero]
  repeat (go_big_quiet_step (fail))
  refine wpQuiet_nil ?_
  refine wpV_make_R rfl rfl (fun x fu hx hI _ => ?_) ?_
  · obtain ⟨ux, rfl⟩ := hx
    obtain ⟨jj, hj1, hj2⟩ := hI
    have hwx := hW2.trans (extR_rel _ _ ux)
    have lx := hwx.size
    unfold makesAtR
    go_simp
    refine ⟨rfl, (l9Draw_any g jj 4 n2 o2 A2 B2 q2 ca2 q2 cb2 _ hj2 (by omega) (by omega)).mono ?_⟩
    rintro _ x' ⟨z, Lz, rfl, hz, hzl, _, hw', hr'⟩
    obtain ⟨Az, nz, cz, rfl, hz2⟩ := hz
    have hz : SliceOut _ x' (.slice Az nz cz) Lz := ⟨Az, nz, cz, rfl, hz2⟩
    exact ⟨_, rfl, WkT.of hw', ⟨jj + 20, by omega, hr'⟩, ⟨fun _ => ⟨Lz, hz.down (Nat.le_trans lV4 lx), by omega⟩, fun e => absurd e (by decide)⟩⟩
  rw [ep]
  go_simp
  refine wpV_make_R rfl rfl (fun x fu hx hI _ => ?_) ?_
  · obtain ⟨ux, rfl⟩ := hx
    obtain ⟨jj, hj1, hj2⟩ := hI
    rcases WkT.goal K4.out (hW2.trans (extR_rel _ _ ux)) nK goal1_at with hz | hz
    all_goals
      unfold makesAtR
      rw [run_store4 _ _ rfl rfl rfl hz]
      exact ⟨WkT.store hz goal1_at, ⟨jj, by omega, hj2.store hz (noByte4 _ _ _ _ _ _ _ _) nK⟩, ⟨fun e => absurd e (by decide), fun _ => store4_blk hz⟩⟩
  go_simp
  refine wpV_nilR ?_
  intro w9 hw9 hI9 hf9
  have HB9 := Lib.hid (show Dq w1.heap.size w9 (.slice Ab nb cb) by rw [← ep]; exact (hf9 3 (by omega) (by decide)).c rfl)
  have K9 := Lib.hid ((hf9 4 (by omega) (by decide)).s rfl)
  have X9 := Lib.hid (X4.out.onT hw9 (fun k hk => goal1_none (by omega)))
  have R9 := Lib.hid hI9.rdr
  have F9 := Lib.hid (F4.out.wkT hw9 lD (fun k hk => goal1_none (by omega)))
  clear hw9 hI9 hvs2 hf9 x0 x1 x2 x3 cW hW2 KB4 ep
  go_wp2_with (fail)
  refine bodyPost_ret (v := .tuple #[.agg #[.int .i64 n2, .int .i64 o2, .slice A2 q2 ca2, .slice B2 q2 cb2], .slice Ab nb cb]) ?_ rfl ⟨_, _, rfl, F9.out.lower (Nat.le_of_lt lK), HB9.out.lower (Nat.le_of_lt lK), X9.out, R9.out.more (by omega)⟩
  exact results_cell_flag (fn := Try.f88) rfl _ _ w.heap.size 25 _ _ _ rfl rfl K9.out Try.underlying25 rfl (by kernel_rfl)



structure P9Phi (D b : Nat) (cs : Array Value) (i : Nat) (v : Value) (w : World) : Prop where
  c : i = 4 → Dq D w v
  s : i = 5 → Blk w b 25 cs
structure P9Sh (i : Nat) (v : Value) : Prop where
  c : i = 4 → ∃ (A : Option Addr) (n c : Nat), v = .slice A n c
theorem P9Sh_zero (i : Nat) : P9Sh i (.slice none 0 0) := ⟨fun _ => ⟨none, 0, 0, rfl⟩⟩

set_option maxHeartbeats 4000000 in
theorem l9Two_any (g k : Nat) (w : World) (hr : Rdr w g k) (hk : k ≤ 1125899906839000) :
    Calls Try.prog 43 #[.pointer (some ⟨g, 0, none⟩)] w fun e w' => ∃ v v1 v2 : Value, e = .returned (.tuple #[v, v1, v2]) ∧ AnyR w.heap.size w' v ∧ Dq w.heap.size w' v1 ∧ Dq w.heap.size w' v2 ∧ Wk g w w' ∧ Rdr w' g (k + 1700) := by
  have hg := hr.lt
  have nK : w.heap.size ≠ g := by omega
  obtain ⟨w1, hW⟩ : ∃ W, w.alloc (.cells #[.int .i64 0, .int .i64 0, .slice none 0 0, .slice none 0 0] 25) = W := ⟨_, rfl⟩
  have bW : Below w.heap.size w w1 := by subst hW; exact (Below.refl _ _).alloc (Nat.le_refl _) _
  have K1 := Lib.hid (show Blk w1 w.heap.size 25 #[.int .i64 0, .int .i64 0, .slice none 0 0, .slice none 0 0] by subst hW; exact Blk.new w _ _)
  have X1 := Lib.hid (Below.wk (g := g) bW)
  have R1 := Lib.hid (hr.next bW)
  clear bW hr
  go_enter Try.func43, Try.ntmps43
  go_upto_region 1 with (fail)
  clear hW
  go_wp2_with (fail)
  refine (l9Some_any g k w1 R1.out (by omega)).mono ?_
  rintro e w2 ⟨v, v1, rfl, hA, hDr, hw2, hr2⟩
  have F2 := hA
  obtain ⟨n2, o2, A2, B2, q2, ca2, cb2, X2, Y2, rfl, hOX, hOY, hq1, hq2, hq3, hq4⟩ := hA.data
  obtain ⟨Aa, na, ca, rfl⟩ := hDr.shape
  have D2 := Lib.hid hDr
  have s1 := X1.out.size
  have s2 := hw2.size
  have K2 := K1.out.wk hw2 nK
  have X2 := X1.out.trans hw2
  clear hA hDr
  go_upto_region 2 with (fail)
  obtain ⟨V, hV⟩ : ∃ V, w2.alloc (.cells #[.int .i64 n2, .int .i64 o2, .slice A2 q2 ca2, .slice B2 q2 cb2] 25) = V := ⟨_, rfl⟩
  have bV : Below w2.heap.size w2 V := by subst hV; exact (Below.refl _ _).alloc (Nat.le_refl _) _
  obtain ⟨bx, hbx⟩ : ∃ b, b = w2.heap.size := ⟨_, rfl⟩
  have lD : g < w1.heap.size := R1.out.lt
  have lK : w.heap.size < w1.heap.size := K1.out.lt
  have nB : bx ≠ g := by omega
  have nBK : bx ≠ w.heap.size := by omega
  have KB3 := Lib.hid (show Blk V bx 25 #[.int .i64 n2, .int .i64 o2, .slice A2 q2 ca2, .slice B2 q2 cb2] by subst hV hbx; exact Blk.new w2 _ _)
  have K3 := Lib.hid (K2.next bV)
  have X3 := Lib.hid (X2.trans (Below.wk bV))
  have R3 := Lib.hid (hr2.next bV)
  have F3 := Lib.hid (F2.next bV)
  have OX3 := Lib.hid (hOX.next bV)
  have OY3 := Lib.hid (hOY.next bV)
  have lV1 : w1.heap.size ≤ V.heap.size := Nat.le_trans hw2.size bV.size
  have bV2 := bV
  rw [← hbx, hV]
  clear hV bV hbx K2 X2 hr2 F2 hw2 s1 s2 hOX hOY
  have HA4 := Lib.hid (D2.out.next bV2)
  have K4 := K3
  have X4 := X3
  have R4 := R3
  have F4 := F3
  have OX4 := OX3
  have OY4 := OY3
  have KB4 := KB3
  have lV4 := lV1
  refine wp_region_makersR (WkT g (goal1 w.heap.size #[.int .i64 n2, .int .i64 o2, .slice A2 q2 ca2, .slice B2 q2 cb2])) (RdG g ((k + 800) + 800)) 7 (fun i => i == 4 || i == 5) (P9Phi w1.heap.size w.heap.size #[.int .i64 n2, .int .i64 o2, .slice A2 q2 ca2, .slice B2 q2 cb2]) P9Sh (fun _ => .slice none 0 0) probe (by kernel_rfl) (by kernel_rfl)
    (fun w => WkT.refl w) (fun _ _ _ h h' => h.trans h') (fun _ _ h => h.less) (WkT.of (Wk.refl g _).drew) ⟨(k + 800), by omega, R4.out.next (Below.refl _ _).drew⟩ (fun _ _ _ _ h hw => ⟨fun e => (h.c e).wkT hw lD (fun k hk => goal1_none (by omega)), fun e => WkT.done (h.s e) hw nK goal1_at⟩) (fun _ _ _ _ h => ⟨fun e => (h.c e).shape⟩) (fun i _ => P9Sh_zero i) ?_
  intro W2 hW2 vs2 hvs2
  obtain ⟨Ab, nb, cb, ep⟩ := ((hvs2 4 rfl).c rfl)
  have cW : ∃ x, extCR (WkT g (goal1 w.heap.size #[.int .i64 n2, .int .i64 o2, .slice A2 q2 ca2, .slice B2 q2 cb2])) W2 x := ⟨W2, extCR_of (WkT.refl W2)⟩
  have KB4 := WkT.blk KB4.out hW2 nB (goal1_none nBK)
  have x0 := KB4.allT (T := goal1 w.heap.size #[.int .i64 n2, .int .i64 o2, .slice A2 q2 ca2, .slice B2 q2 cb2]) nB (goal1_none nBK) 0
  have x1 := KB4.allT (T := goal1 w.heap.size #[.int .i64 n2, .int .i64 o2, .slice A2 q2 ca2, .slice B2 q2 cb2]) nB (goal1_none nBK) 1
  have x2 := KB4.allT (T := goal1 w.heap.size #[.int .i64 n2, .int .i64 o2, .slice A2 q2 ca2, .slice B2 q2 cb2]) nB (goal1_none nBK) 2
  have x3 := KB4.allT (T := goal1 w.heap.size #[.int .i64 n2, .int .i64 o2, .slice A2 q2 ca2, .slice B2 q2 cb2]) nB (goal1_none nBK) 3
  simp at x0 x1 x2 x3
  simp only [List.take_succ_cons, List.take_zero, List.drop_succ_cons, List.drop_zero]
  refine wpV_quietR cW 4 0 _ _ (by decide) (by decide) (fun o ho => plain_noEnter (List.all_eq_true.1 (by rfl) o ho)) ?_
  simp only [List.take_succ_cons, List.take_zero, List.drop_succ_cons, List.drop_zero]
  repeat (go_big_quiet_step (fail))
  refine wpQuiet_nil ?_
  refine wpV_make_R rfl rfl (fun x fu hx hI _ => ?_) ?_
  · obtain ⟨ux, rfl⟩ := hx
    obtain ⟨jj, hj1, hj2⟩ := hI
    have hwx := hW2.trans (extR_rel _ _ ux)
    have lx := hwx.size
    unfold makesAtR
    go_simp
    refine ⟨rfl, (l9Draw_any g jj 3 n2 o2 A2 B2 q2 ca2 q2 cb2 _ hj2 (by omega) (by omega)).mono ?_⟩
    rintro _ x' ⟨z, Lz, rfl, hz, hzl, _, hw', hr'⟩
    obtain ⟨Az, nz, cz, rfl, hz2⟩ := hz
    have hz : SliceOut _ x' (.slice Az nz cz) Lz := ⟨Az, nz, cz, rfl, hz2⟩
    exact ⟨_, rfl, WkT.of hw', ⟨jj + 20, by omega, hr'⟩, ⟨fun _ => ⟨Lz, hz.down (Nat.le_trans lV4 lx), by omega⟩, fun e => absurd e (by decide)⟩⟩
  rw [ep]
  go_simp
  refine wpV_make_R rfl rfl (fun x fu hx hI _ => ?_) ?_
  · obtain ⟨ux, rfl⟩ := hx
    obtain ⟨jj, hj1, hj2⟩ := hI
    rcases WkT.goal K4.out (hW2.trans (extR_rel _ _ ux)) nK goal1_at with hz | hz
    all_goals
      unfold makesAtR
      rw [run_store4 _ _ rfl rfl rfl hz]
      exact ⟨WkT.store hz goal1_at, ⟨jj, by omega, hj2.store hz (noByte4 _ _ _ _ _ _ _ _) nK⟩, ⟨fun e => absurd e (by decide), fun _ => store4_blk hz⟩⟩
  go_simp
  refine wpV_quietR cW 1 _ _ _ (by decide) (by decide) (fun o ho => plain_noEnter (List.all_eq_true.1 (by rfl) o ho)) ?_
  simp only [List.take_succ_cons, List.take_zero, List.drop_succ_cons, List.drop_zero]
  repeat (go_big_quiet_step (fail))
  refine wpQuiet_nil ?_
  refine wpV_nilR ?_
  intro w9 hw9 hI9 hf9
  have HB9 := Lib.hid (show Dq w1.heap.size w9 (.slice Ab nb cb) by rw [← ep]; exact (hf9 4 (by omega) (by decide)).c rfl)
  have HA9 := Lib.hid (HA4.out.wkT hw9 lD (fun k hk => goal1_none (by omega)))
  have K9 := Lib.hid ((hf9 5 (by omega) (by decide)).s rfl)
  have X9 := Lib.hid (X4.out.onT hw9 (fun k hk => goal1_none (by omega)))
  have R9 := Lib.hid hI9.rdr
  have F9 := Lib.hid (F4.out.wkT hw9 lD (fun k hk => goal1_none (by omega)))
  clear hw9 hI9 hvs2 hf9 x0 x1 x2 x3 cW hW2 KB4 ep
  go_wp2_with (fail)
  refine bodyPost_ret (v := .tuple #[.agg #[.int .i64 n2, .int .i64 o2, .slice A2 q2 ca2, .slice B2 q2 cb2], .slice Aa na ca, .slice Ab nb cb]) ?_ rfl ⟨_, _, _, rfl, F9.out.lower (Nat.le_of_lt lK), HA9.out.lower (Nat.le_of_lt lK), HB9.out.lower (Nat.le_of_lt lK), X9.out, R9.out.more (by omega)⟩
  exact results_cell_two (fn := Try.f43) rfl _ _ w.heap.size 25 _ _ _ _ rfl rfl rfl K9.out Try.underlying25 rfl (by kernel_rfl)

end Go.Proofs.Ytlcpbdbdiahmjaa

