
import Derived.Test.YtajoimopahibcaaGreatLWI
import Derived.Test.YtajoimopahibcaaGreatMT
import Derived.Test.YtajoimopahibcaaGreatMF
/- The drawing side: a ring, an ideal, and an ideal of the quotient (DrawLiftIdeal). -/
namespace Go.Proofs.YtajoimopahibcaaGreat
open Go.RowKit
set_option maxRecDepth 100000

theorem qu_len {n o : Int} {A B : Option Addr} {la ca lb cb : Nat} {X Y L : List Int} {w : World} (hX : Ints w w.heap.size A la X) (hY : Ints w w.heap.size B lb Y) (hca : la ≤ ca) (hcb : lb ≤ cb) : (quS n o X Y L).length = (quP n o X Y L).length ∧ (quS n o X Y L).length ≤ 256 := by
  cases hl : isIdB n o X Y L
  · unfold quS quP
    rw [hl]
    exact ⟨rfl, by simp⟩
  · obtain ⟨m, e, b1, o1, b2, o2, rfl, rfl, rfl, rfl, hr, _⟩ := valid_data (ide_data (isId_ide hl)).1 hX hY hca hcb
    have hm' := hr.hm'
    have nm : qN m (tabOf X) (setL L) ≤ m := cnt_le
    have q256 := Nat.mul_le_mul (Nat.le_trans nm hm') (Nat.le_trans nm hm')
    unfold quS quP
    rw [hl, if_pos rfl, if_pos rfl, numL_len, numL_len]
    exact ⟨rfl, q256⟩

set_option maxHeartbeats 4000000 in
theorem drawLiftIdeal_any (A : Option Addr) (n c : Nat) (w : World) (hb : Byts w w.heap.size A n) (hn : n ≤ 1048576) (hc : n ≤ c) (hc2 : c ≤ 9223372036854775807) :
    Calls Tryz.prog 33 #[.slice A n c] w fun e w' => ∃ v v1 v2 : Value, e = .returned (.tuple #[v, v1, v2]) ∧ AnyR w.heap.size w' v ∧ Dr w.heap.size w' v1 ∧ Dr w.heap.size w' v2 ∧ Below w.heap.size w w' := by
  obtain ⟨W, hW⟩ : ∃ W, w.alloc (.cells #[.int .i64 0, .int .i64 0, .slice none 0 0, .slice none 0 0] 25) = W := ⟨_, rfl⟩
  have hs : W.heap.size = w.heap.size + 1 := by subst hW; simp
  have bW : Below w.heap.size w W := by subst hW; exact (Below.refl _ _).alloc (Nat.le_refl _) _
  have K0 := Lib.hid (show Blk W w.heap.size 25 #[.int .i64 0, .int .i64 0, .slice none 0 0, .slice none 0 0] by subst hW; exact Blk.new w _ _)
  have HB := Lib.hid (hb.grow bW)
  have B0 := Lib.hid bW
  clear bW
  go_enter Tryz.func33, Tryz.ntmps33
  go_upto_region 1 with (fail)
  clear hW
  go_wp2_with (fail)
  refine (l13Open_any A n c W HB.out (by omega) hc hc2).mono ?_
  rintro e w1 ⟨rfl, hb1, hr1, hlt1⟩
  obtain ⟨g, hg⟩ : ∃ g, W.heap.size = g := ⟨_, rfl⟩
  rw [hg] at hr1 hlt1 ⊢
  have hgw : w.heap.size < g := by omega
  have K1 := Lib.hid (K0.out.below hb1 (by omega))
  have B1 := Lib.hid (B0.out.trans (hb1.mono (by omega)))
  have R1 := Lib.hid hr1
  have lD : g < w1.heap.size := hr1.lt
  have nK : w.heap.size ≠ g := by omega
  clear hb1 hr1 hg hs
  go_wp2_with (fail)
  refine (l4Some_any g 0 w1 R1.out (by omega)).mono ?_
  rintro e w2 ⟨v, v1, rfl, hA, ha, hw2, hr2⟩
  have F2 := hA
  obtain ⟨n2, o2, A2, B2, q2, ca2, cb2, X2, Y2, rfl, hOX, hOY, hq1, hq2, hq3, hq4⟩ := hA.data
  have ha0 := ha
  obtain ⟨La, hsa, hla⟩ := ha
  obtain ⟨Aa, na, ca, rfl, hOA, na1, na2⟩ := hsa
  have K2 := K1.out.wk hw2 nK
  have XX2 : Wk g w w2 := (Below.wk (g := g) B1.out).trans hw2
  have lK : w.heap.size < w1.heap.size := by omega
  clear hA
  go_upto_region 3 with (fail)
  obtain ⟨V, hV⟩ : ∃ V, w2.alloc (.cells #[.int .i64 n2, .int .i64 o2, .slice A2 q2 ca2, .slice B2 q2 cb2] 25) = V := ⟨_, rfl⟩
  have bV : Below w2.heap.size w2 V := by subst hV; exact (Below.refl _ _).alloc (Nat.le_refl _) _
  obtain ⟨bx, hbx⟩ : ∃ b, b = w2.heap.size := ⟨_, rfl⟩
  have s2 := hw2.size
  have nB : bx ≠ g := by omega
  have nBK : bx ≠ w.heap.size := by omega
  have KB3 := Lib.hid (show Blk V bx 25 #[.int .i64 n2, .int .i64 o2, .slice A2 q2 ca2, .slice B2 q2 cb2] by subst hV hbx; exact Blk.new w2 _ _)
  have K3 := Lib.hid (K2.next bV)
  have X3 := Lib.hid (XX2.trans (Below.wk bV))
  have R3 := Lib.hid (hr2.next bV)
  have F3 := Lib.hid (F2.next bV)
  have OX3 := Lib.hid (hOX.next bV)
  have OY3 := Lib.hid (hOY.next bV)
  have SA3 := Lib.hid (hOA.next bV)
  have lV1 : w1.heap.size ≤ V.heap.size := Nat.le_trans hw2.size bV.size
  rw [← hbx, hV]
  clear hV bV hbx K2 XX2 hr2 F2 hw2 s2 hOX hOY hOA ha0
  have c0 := KB3.out.cell 0
  have c1 := KB3.out.cell 1
  have c2 := KB3.out.cell 2
  have c3 := KB3.out.cell 3
  simp at c0 c1 c2 c3
  have hlen := qu_len (n := n2) (o := o2) (L := La) OX3.out.ints OY3.out.ints hq3 hq4
  go_wp2_with (fail)
  refine (squo_any n2 o2 A2 B2 Aa q2 ca2 q2 cb2 na ca X2 Y2 La V OX3.out.ints OY3.out.ints SA3.out.ints (by omega) (by omega) (by omega) hq3 hq4).mono ?_
  rintro e w3 ⟨v, u, rfl, hv, _, hb3⟩
  obtain ⟨A5, l5, ca5, B5, l6, cb5, rfl, hOQ, hOP, ⟨_, _, _, _, hv3, hv4⟩, _, _⟩ := hv
  obtain ⟨qn, hqn⟩ : ∃ x, quN n2 o2 X2 Y2 La = x := ⟨_, rfl⟩
  obtain ⟨qo, hqo⟩ : ∃ x, quO n2 o2 X2 Y2 La = x := ⟨_, rfl⟩
  rw [hqn, hqo]
  have e5 : l5 = l6 := by rw [← hOQ.1, ← hOP.1]; exact hlen.1
  have hv2 : l5 ≤ 256 := by rw [← hOQ.1]; exact hlen.2
  subst e5
  obtain ⟨q5, hq5⟩ : ∃ x, l5 = x := ⟨_, rfl⟩
  rw [hq5] at hOQ hOP hv2 hv3 hv4 ⊢
  clear c0 c1 c2 c3 hqn hqo hlen hq5
  have K33 := Lib.hid (K3.out.next hb3)
  have X33 := Lib.hid (X3.out.trans (Below.wk hb3))
  have R33 := Lib.hid (R3.out.next hb3)
  have F33 := Lib.hid (F3.out.next hb3)
  have OX33 := Lib.hid (OX3.out.next hb3)
  have SA33 := Lib.hid (SA3.out.next hb3)
  have KB33 := Lib.hid (KB3.out.next hb3)
  have OQ33 := Lib.hid (hOQ.down lV1)
  have OP33 := Lib.hid (hOP.down lV1)
  have lV3 : w1.heap.size ≤ w3.heap.size := Nat.le_trans lV1 hb3.size
  have lVX : bx < w3.heap.size := Nat.lt_of_lt_of_le KB3.out.lt hb3.size
  clear hb3 hOQ hOP K3 X3 R3 F3 OX3 OY3 SA3 KB3
  go_upto_region 4 with (fail)
  obtain ⟨V, hV⟩ : ∃ V, w3.alloc (.cells #[.int .i64 qn, .int .i64 qo, .slice A5 q5 ca5, .slice B5 q5 cb5] 25) = V := ⟨_, rfl⟩
  have bV : Below w3.heap.size w3 V := by subst hV; exact (Below.refl _ _).alloc (Nat.le_refl _) _
  obtain ⟨by_, hby⟩ : ∃ b, b = w3.heap.size := ⟨_, rfl⟩
  have nC : by_ ≠ g := by omega
  have nCK : by_ ≠ w.heap.size := by omega
  have KC4 := Lib.hid (show Blk V by_ 25 #[.int .i64 qn, .int .i64 qo, .slice A5 q5 ca5, .slice B5 q5 cb5] by subst hV hby; exact Blk.new w3 _ _)
  have KB4 := Lib.hid (KB33.out.next bV)
  have K4 := Lib.hid (K33.out.next bV)
  have X4 := Lib.hid (X33.out.trans (Below.wk bV))
  have R4 := Lib.hid (R33.out.next bV)
  have F4 := Lib.hid (F33.out.next bV)
  have OQ4 := Lib.hid (OQ33.out.next bV)
  have OP4 := Lib.hid (OP33.out.next bV)
  have HA4 := Lib.hid (show Dr w1.heap.size V (.slice Aa na ca) from ⟨La, ⟨_, _, _, rfl, SA33.out.next bV, na1, na2⟩, hla⟩)
  have lV4 : w1.heap.size ≤ V.heap.size := Nat.le_trans lV3 bV.size
  rw [← hby, hV]
  clear hV bV hby K33 X33 R33 F33 OQ33 OP33 SA33 KB33 OX33
  refine wp_region_makersR (WkT g (goal1 w.heap.size #[.int .i64 n2, .int .i64 o2, .slice A2 q2 ca2, .slice B2 q2 cb2])) (RdG g (800 + 700)) 7 (fun i => i == 4 || i == 5) (P4Phi w1.heap.size w.heap.size #[.int .i64 n2, .int .i64 o2, .slice A2 q2 ca2, .slice B2 q2 cb2]) P4Sh (fun _ => .slice none 0 0) probe (by kernel_rfl) (by kernel_rfl)
    (fun w => WkT.refl w) (fun _ _ _ h h' => h.trans h') (fun _ _ h => h.less) (WkT.of (Wk.refl g _).drew) ⟨800, by omega, R4.out.next (Below.refl _ _).drew⟩ (fun _ _ _ _ h hw => ⟨fun e => (h.c e).wkT hw lD (fun k hk => goal1_none (by omega)), fun e => WkT.done (h.s e) hw nK goal1_at⟩) (fun _ _ _ _ h => ⟨fun e => (h.c e).shape⟩) (fun i _ => P4Sh_zero i) ?_
  intro W2 hW2 vs2 hvs2
  obtain ⟨Ab, nb, cb, ep⟩ := ((hvs2 4 rfl).c rfl)
  have cW : ∃ x, extCR (WkT g (goal1 w.heap.size #[.int .i64 n2, .int .i64 o2, .slice A2 q2 ca2, .slice B2 q2 cb2])) W2 x := ⟨W2, extCR_of (WkT.refl W2)⟩
  have KB4 := WkT.blk KB4.out hW2 nB (goal1_none nBK)
  have x0 := KB4.allT (T := goal1 w.heap.size #[.int .i64 n2, .int .i64 o2, .slice A2 q2 ca2, .slice B2 q2 cb2]) nB (goal1_none nBK) 0
  have x1 := KB4.allT (T := goal1 w.heap.size #[.int .i64 n2, .int .i64 o2, .slice A2 q2 ca2, .slice B2 q2 cb2]) nB (goal1_none nBK) 1
  have x2 := KB4.allT (T := goal1 w.heap.size #[.int .i64 n2, .int .i64 o2, .slice A2 q2 ca2, .slice B2 q2 cb2]) nB (goal1_none nBK) 2
  have x3 := KB4.allT (T := goal1 w.heap.size #[.int .i64 n2, .int .i64 o2, .slice A2 q2 ca2, .slice B2 q2 cb2]) nB (goal1_none nBK) 3
  have KC4 := WkT.blk KC4.out hW2 nC (goal1_none nCK)
  have y0 := KC4.allT (T := goal1 w.heap.size #[.int .i64 n2, .int .i64 o2, .slice A2 q2 ca2, .slice B2 q2 cb2]) nC (goal1_none nCK) 0
  have y1 := KC4.allT (T := goal1 w.heap.size #[.int .i64 n2, .int .i64 o2, .slice A2 q2 ca2, .slice B2 q2 cb2]) nC (goal1_none nCK) 1
  have y2 := KC4.allT (T := goal1 w.heap.size #[.int .i64 n2, .int .i64 o2, .slice A2 q2 ca2, .slice B2 q2 cb2]) nC (goal1_none nCK) 2
  have y3 := KC4.allT (T := goal1 w.heap.size #[.int .i64 n2, .int .i64 o2, .slice A2 q2 ca2, .slice B2 q2 cb2]) nC (goal1_none nCK) 3
  simp at x0 x1 x2 x3 y0 y1 y2 y3
  simp only [List.take_succ_cons, List.take_zero, List.drop_succ_cons, List.drop_zero]
  refine wpV_quietR cW 4 0 _ _ (by decide) (by decide) (fun o ho => plain_noEnter (List.all_eq_true.1 (by rfl) o ho)) ?_
  simp only [List.take_succ_cons, List.take_zero, List.drop_succ_cons, List.drop_zero]
  repeat (go_big_quiet_step (fail))
  refine wpQuiet_nil ?_
  refine wpV_make_R rfl rfl (fun x fu hx hI _ => ?_) ?_
  · obtain ⟨ux, rfl⟩ := hx
    obtain ⟨jj, hj1, hj2⟩ := hI
    have hwx := hW2.trans (extR_rel _ _ ux)
    have lx := hwx.size
    unfold makesAtR
    go_simp
    refine ⟨rfl, (l4Draw_any g jj w1.heap.size qn qo A5 B5 q5 ca5 cb5 _ _ _ hj2 (by omega) (OQ4.out.wkT hwx lD (fun k hk => goal1_none (by omega))) (OP4.out.wkT hwx lD (fun k hk => goal1_none (by omega))) hv2 hv3 hv4).mono ?_⟩
    rintro _ x' ⟨z, Lz, rfl, hz, hzl, hw', hr'⟩
    exact ⟨_, rfl, WkT.of hw', ⟨jj + 4, by omega, hr'⟩, ⟨fun _ => ⟨Lz, hz.down (Nat.le_trans lV4 lx), hzl⟩, fun e => absurd e (by decide)⟩⟩
  rw [ep]
  go_simp
  refine wpV_make_R rfl rfl (fun x fu hx hI _ => ?_) ?_
  · obtain ⟨ux, rfl⟩ := hx
    obtain ⟨jj, hj1, hj2⟩ := hI
    rcases WkT.goal K4.out (hW2.trans (extR_rel _ _ ux)) nK goal1_at with hz | hz
    all_goals
      unfold makesAtR
      rw [run_store4 _ _ rfl rfl rfl hz]
      exact ⟨WkT.store hz goal1_at, ⟨jj, by omega, hj2.store hz (noByte4 _ _ _ _ _ _ _ _) nK⟩, ⟨fun e => absurd e (by decide), fun _ => store4_blk hz⟩⟩
  go_simp
  refine wpV_quietR cW 1 _ _ _ (by decide) (by decide) (fun o ho => plain_noEnter (List.all_eq_true.1 (by rfl) o ho)) ?_
  simp only [List.take_succ_cons, List.take_zero, List.drop_succ_cons, List.drop_zero]
  repeat (go_big_quiet_step (fail))
  refine wpQuiet_nil ?_
  refine wpV_nilR ?_
  intro w9 hw9 hI9 hf9
  have HB9 := Lib.hid (show Dr w1.heap.size w9 (.slice Ab nb cb) by rw [← ep]; exact (hf9 4 (by omega) (by decide)).c rfl)
  have HA9 := Lib.hid (HA4.out.wkT hw9 lD (fun k hk => goal1_none (by omega)))
  have K9 := Lib.hid ((hf9 5 (by omega) (by decide)).s rfl)
  have X9 := Lib.hid (X4.out.onT hw9 (fun k hk => goal1_none (by omega)))
  have R9 := Lib.hid hI9.rdr
  have F9 := Lib.hid (F4.out.wkT hw9 lD (fun k hk => goal1_none (by omega)))
  clear hw9 hI9 hvs2 hf9 x0 x1 x2 x3 y0 y1 y2 y3 cW hW2 KB4 KC4 ep
  go_wp2_with (fail)
  refine bodyPost_ret (v := .tuple #[.agg #[.int .i64 n2, .int .i64 o2, .slice A2 q2 ca2, .slice B2 q2 cb2], .slice Aa na ca, .slice Ab nb cb]) ?_ rfl ⟨_, _, _, rfl, F9.out.lower (Nat.le_of_lt lK), HA9.out.lower (Nat.le_of_lt lK), HB9.out.lower (Nat.le_of_lt lK), X9.out.below (Nat.le_of_lt hgw) (Nat.le_refl _)⟩
  exact results_cell_two (fn := Tryz.f33) rfl _ _ w.heap.size 25 _ _ _ _ rfl rfl rfl K9.out Tryz.underlying25 rfl (by kernel_rfl)

end Go.Proofs.YtajoimopahibcaaGreat

