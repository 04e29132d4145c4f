/- The walk of the law FnExactProductRing. -/
import Derived.Test.YtplligjoegjngaaH6
import Derived.Deep.Cut
namespace Go.Proofs.Ytplligjoegjngaa
open Go.RowKit
set_option maxRecDepth 100000

theorem ring_fresh {w w' : World} {v0 : Value} {n o : Int} {X Y : List Int} {ok : Bool} {b : Nat} (h : RingOutB w.heap.size w' v0 n o X Y) (hb : b ∈ blocksOf (.tuple #[v0, .bool ok])) : w.heap.size ≤ b ∧ b < w'.heap.size := by
  obtain ⟨A, la, ca, B, lb, cb, rfl, _, _, _, h4, h5⟩ := h
  have hb' : b ∈ sliceBlocks (.slice A la ca) ++ sliceBlocks (.slice B lb cb) := hb
  rw [List.mem_append] at hb'
  rcases hb' with hb' | hb'
  · cases A with
    | none => cases hb'
    | some a =>
      have e : b = a.block := by simpa [sliceBlocks] using hb'
      rw [e]
      exact h4 a rfl
  · cases B with
    | none => cases hb'
    | some a =>
      have e : b = a.block := by simpa [sliceBlocks] using hb'
      rw [e]
      exact h5 a rfl
theorem ring_owns {w : World} {D : Nat} {v0 : Value} {n o : Int} {X Y : List Int} {ok : Bool} {A B : Option Addr} {la ca lb cb : Nat} (q : Value.tuple #[.agg #[.int .i64 n, .int .i64 o, .slice A la ca, .slice B lb cb], .bool ok] = .tuple #[v0, .bool ok]) (h : RingOutB D w v0 n o X Y) :
    Own w D A la X ∧ Own w D B lb Y ∧ (Apart A la B lb ∧ la ≤ 1048570 ∧ lb ≤ 1048570 ∧ la + lb ≤ 1048570 ∧ la ≤ ca ∧ lb ≤ cb) := by
  obtain ⟨A1, la1, ca1, B1, lb1, cb1, rfl, h1, h2, h3, _⟩ := h
  simp only [Value.tuple.injEq, Value.agg.injEq, Array.mk.injEq, List.cons.injEq, Value.slice.injEq, true_and, and_true] at q
  obtain ⟨⟨rfl, rfl, rfl⟩, rfl, rfl, rfl⟩ := q
  exact ⟨h1, h2, h3⟩
theorem makesD_box {n o n' o' : Int} {la lb la' lb' : Nat} {X Y X' Y' : List Int} {D : Nat} {N O : Int} {Z T : List Int} {ok : Bool} {op : Oper} {a : Act} (hop : op.op = .alloc 24) (w : World) (hD : D ≤ w.heap.size) :
    makesAtD Try.prog op a w (CallPhi n o n' o' la lb la' lb' X Y X' Y' D N O Z T ok 8) := by
  unfold makesAtD
  simp only [execOp, hop]
  go_simp
  refine ⟨(Below.refl _ _).alloc (Nat.le_refl _) _, ⟨fun e => absurd e (by decide), fun e => absurd e (by decide), fun e => absurd e (by decide), fun _ => ⟨w.heap.size, rfl, hD, Blk.new w _ _⟩⟩, fun b hb => ?_⟩
  simp [blocksOf] at hb
  subst hb
  simp

set_option maxHeartbeats 4000000 in
theorem fnExactProductRing_walk (n o n' o' : Int) (A B A' B' : Option Addr) (la ca lb cb la' ca' lb' cb' : Nat) (X Y X' Y' : List Int) (w : World) (hX : Ints w w.heap.size A la X) (hY : Ints w w.heap.size B lb Y) (hX' : Ints w w.heap.size A' la' X') (hY' : Ints w w.heap.size B' lb' Y')
    (hla : la ≤ 9223372036854775807) (hlb : lb ≤ 9223372036854775807) (hla' : la' ≤ 9223372036854775807) (hlb' : lb' ≤ 9223372036854775807) :
    Calls Try.prog 4 #[.agg #[.int .i64 n, .int .i64 o, .slice A la ca, .slice B lb cb], .agg #[.int .i64 n', .int .i64 o', .slice A' la' ca', .slice B' lb' cb']] w fun e w' => e = .returned (.bool true) ∧ Below w.heap.size w w' := by
  obtain ⟨W, hW⟩ : ∃ W, (w.alloc (.cells #[.int .i64 n, .int .i64 o, .slice A la ca, .slice B lb cb] 30)).alloc (.cells #[.int .i64 n', .int .i64 o', .slice A' la' ca', .slice B' lb' cb'] 30) = W := ⟨_, rfl⟩
  have k1 : Blk W w.heap.size 30 #[.int .i64 n, .int .i64 o, .slice A la ca, .slice B lb cb] := by
    subst hW; exact (Blk.new w _ _).alloc _
  have k2 : Blk W (w.heap.size + 1) 30 #[.int .i64 n', .int .i64 o', .slice A' la' ca', .slice B' lb' cb'] := by
    subst hW; simpa using Blk.new (w.alloc (.cells #[.int .i64 n, .int .i64 o, .slice A la ca, .slice B lb cb] 30)) 30 #[.int .i64 n', .int .i64 o', .slice A' la' ca', .slice B' lb' cb']
  have b0 : Below w.heap.size w W := by
    subst hW; exact ((Below.refl _ _).alloc (Nat.le_refl _) _).alloc (by simp) _
  have K1 := Lib.hid k1
  have K2 := Lib.hid k2
  have IX := Lib.hid (hX.next b0)
  have IY := Lib.hid (hY.next b0)
  have IX' := Lib.hid (hX'.next b0)
  have IY' := Lib.hid (hY'.next b0)
  have BB := Lib.hid b0
  have HW := Lib.hid hW
  clear k1 k2 hX hY hX' hY' b0 hW
  by_cases hsz : (la : Int) + lb ≤ 1048576
  · have z1 := Lib.hid (szRq_yes hsz)
    by_cases hsz2 : (la' : Int) + lb' ≤ 1048576 - la - lb
    · have z2 := Lib.hid (szRq_yes hsz2)
      have hs1 : la ≤ 1048576 := by omega
      have hs2 : lb ≤ 1048576 := by omega
      have hs3 : la' ≤ 1048576 := by omega
      have hs4 : lb' ≤ 1048576 := by omega
      obtain ⟨ok, hok⟩ : ∃ x, prodB n o X Y n' o' X' Y' = x := ⟨_, rfl⟩
      obtain ⟨n9, hn9⟩ : ∃ x, prN n o X Y n' o' X' Y' = x := ⟨_, rfl⟩
      obtain ⟨o9, ho9⟩ : ∃ x, prO n o X Y n' o' X' Y' = x := ⟨_, rfl⟩
      obtain ⟨Z9, hZ9⟩ : ∃ x, prT X X' n o X Y n' o' X' Y' = x := ⟨_, rfl⟩
      obtain ⟨T9, hT9⟩ : ∃ x, prT Y Y' n o X Y n' o' X' Y' = x := ⟨_, rfl⟩
      have EOK := Lib.hid hok
      have EN := Lib.hid hn9
      have EO := Lib.hid ho9
      have EZ := Lib.hid hZ9
      have ET := Lib.hid hT9
      clear hok hn9 ho9 hZ9 hT9
      go_enter Try.func4, Try.ntmps4
      go_wp2_with (fail)
      rw [HW.out]
      refine (szRing_any n o A B la ca lb cb 1048576 W (by omega) (by omega) hla hlb).mono ?_
      rintro e1 w1 ⟨rfl, hb1⟩
      rw [z1.out]
      have K1 := Lib.hid (K1.out.next hb1); have K2 := Lib.hid (K2.out.next hb1); have IX := Lib.hid (IX.out.next hb1); have IY := Lib.hid (IY.out.next hb1); have IX' := Lib.hid (IX'.out.next hb1); have IY' := Lib.hid (IY'.out.next hb1); have BB := Lib.hid (below_step BB.out hb1); clear hb1
      obtain ⟨c0, c1, c2, c3⟩ := blk4 K1.out
      obtain ⟨d0, d1, d2, d3⟩ := blk4 K2.out
      go_wp2_with (fail)
      refine (szRing_any n' o' A' B' la' ca' lb' cb' (1048576 - la - lb) w1 (by omega) (by omega) hla' hlb').mono ?_
      rintro e2 w2 ⟨rfl, hb2⟩
      rw [z2.out]
      have K1 := Lib.hid (K1.out.next hb2); have K2 := Lib.hid (K2.out.next hb2); have IX := Lib.hid (IX.out.next hb2); have IY := Lib.hid (IY.out.next hb2); have IX' := Lib.hid (IX'.out.next hb2); have IY' := Lib.hid (IY'.out.next hb2); have BB := Lib.hid (below_step BB.out hb2); clear hb2
      obtain ⟨f0, f1, f2, f3⟩ := blk4 K1.out
      obtain ⟨g0, g1, g2, g3⟩ := blk4 K2.out
      go_upto_region 8 with (fail)
      refine wp_region_float 9 7 _ callMk (CallPhi n o n' o' la lb la' lb' X Y X' Y' w2.heap.size n9 o9 Z9 T9 ok) (CallSh n o n' o' la lb la' lb' n9 o9 ok) (call0 n o n' o' la lb la' lb' n9 o9 ok) probe (by kernel_rfl) (by kernel_rfl) rfl rfl (extract_pure rfl) rfl (fun _ _ _ _ h => h) CallPhi_stable (fun i v x _ => CallSh_of i v x) (fun i _ => CallSh_zero i) ?_
      intro Vqs hVqs vss hvss
      obtain ⟨a1s, a2s, eas⟩ := (hvss 1 rfl).p1 rfl
      obtain ⟨c1s, c2s, ecs⟩ := (hvss 3 rfl).p3 rfl
      obtain ⟨A9, la9, ca9, B9, lb9, cb9, e9s⟩ := (hvss 4 rfl).p4 rfl
      obtain ⟨b6, e6s⟩ := (hvss 8 rfl).p8 rfl
      have cWs : ∃ x, extC Vqs x := ⟨Vqs, extC_of (Below.refl _ _)⟩
      have kxs : ∀ x, extC Vqs x → Below w2.heap.size w2 x := fun x ⟨u, hu⟩ => by rw [hu]; exact hVqs.trans ((ext_below Vqs u).mono hVqs.size)
      obtain ⟨_, ps0, ps1, ps2, ps3⟩ := (C4.of K1.out).next hVqs
      obtain ⟨_, qs0, qs1, qs2, qs3⟩ := (C4.of K2.out).next hVqs
      simp only [List.take_succ_cons, List.take_zero, List.drop_succ_cons, List.drop_zero]
      refine wpV_quietD cWs 1 0 _ _ (by decide) (by decide) ?_
      simp only [List.take_succ_cons, List.take_zero, List.drop_succ_cons, List.drop_zero]
      repeat (go_big_quiet_step (fail))
      refine wpQuiet_nil ?_
      refine wpV_make_D rfl rfl (fun x hx _ => ?_) ?_
      · unfold makesAtD
        go_simp
        refine ⟨rfl, (toRing_any n o A B la ca lb cb X Y x ((IX.out).next (kxs x hx)) ((IY.out).next (kxs x hx)) hs1 hs2).mono ?_⟩
        rintro _ x' ⟨g1, g2, rfl, o1, o2, _, hb⟩
        exact ⟨_, rfl, hb, ⟨fun _ => ⟨g1, g2, rfl, ints_of_own o1 (IX.out).1, ints_of_own o2 (IY.out).1⟩, fun e => absurd e (by decide), fun e => absurd e (by decide), fun e => absurd e (by decide)⟩, fun b hbb => (by simp [blocksOf] at hbb)⟩
      rw [eas]
      go_simp
      refine wpV_quietD cWs 1 _ _ _ (by decide) (by decide) ?_
      simp only [List.take_succ_cons, List.take_zero, List.drop_succ_cons, List.drop_zero]
      repeat (go_big_quiet_step (fail))
      refine wpQuiet_nil ?_
      refine wpV_make_D rfl rfl (fun x hx _ => ?_) ?_
      · unfold makesAtD
        go_simp
        refine ⟨rfl, (toRing_any n' o' A' B' la' ca' lb' cb' X' Y' x ((IX'.out).next (kxs x hx)) ((IY'.out).next (kxs x hx)) hs3 hs4).mono ?_⟩
        rintro _ x' ⟨g1, g2, rfl, o1, o2, _, hb⟩
        exact ⟨_, rfl, hb, ⟨fun e => absurd e (by decide), fun _ => ⟨g1, g2, rfl, ints_of_own o1 (IX'.out).1, ints_of_own o2 (IY'.out).1⟩, fun e => absurd e (by decide), fun e => absurd e (by decide)⟩, fun b hbb => (by simp [blocksOf] at hbb)⟩
      rw [ecs]
      go_simp
      refine wpV_make_D rfl rfl (fun x hx hd => ?_) ?_
      · obtain ⟨g1, g2, q1, i1, i2⟩ := (hd ⟨1, .data⟩ (by simp) rfl rfl).p1 rfl
        obtain ⟨g3, g4, q2, i3, i4⟩ := (hd ⟨3, .data⟩ (by simp) rfl rfl).p3 rfl
        rw [eas] at q1
        rw [ecs] at q2
        simp only [Value.agg.injEq, Array.mk.injEq, List.cons.injEq, Value.slice.injEq, Option.some.injEq, Addr.mk.injEq, true_and, and_true] at q1 q2
        obtain ⟨rfl, rfl⟩ := q1
        obtain ⟨rfl, rfl⟩ := q2
        unfold makesAtD
        go_simp
        refine ⟨rfl, (sproductB_any n o _ _ la la lb lb X Y n' o' _ _ la' la' lb' lb' X' Y' x i1 i2 hla hlb (Nat.le_refl _) (Nat.le_refl _) i3 i4 hla' hlb' (Nat.le_refl _) (Nat.le_refl _)).mono ?_⟩
        rintro _ x' ⟨v0, rfl, ro, hb⟩
        refine ⟨_, by rw [EOK.out], hb, ⟨fun e => absurd e (by decide), fun e => absurd e (by decide), fun _ => ⟨v0, rfl, (by rw [EN.out, EO.out, EZ.out, ET.out] at ro; exact ro.lower (kxs x hx).size)⟩, fun e => absurd e (by decide)⟩, fun b hbb => ring_fresh ro hbb⟩
      rw [e9s]
      go_simp
      refine wpV_quietD cWs 3 _ _ _ (by decide) (by decide) ?_
      simp only [List.take_succ_cons, List.take_zero, List.drop_succ_cons, List.drop_zero]
      repeat (go_big_quiet_step (fail))
      refine wpQuiet_nil ?_
      refine wpV_make_D rfl rfl (fun x hx _ => makesD_box rfl x (kxs x hx).size) ?_
      rw [e6s]
      go_simp
      refine wpV_nilD ?_
      intro w3s hb3s hfactss haparts
      obtain ⟨oAs, oBs, aps⟩ : Own w3s w2.heap.size A9 la9 Z9 ∧ Own w3s w2.heap.size B9 lb9 T9 ∧ (Apart A9 la9 B9 lb9 ∧ la9 ≤ 1048570 ∧ lb9 ≤ 1048570 ∧ la9 + lb9 ≤ 1048570 ∧ la9 ≤ ca9 ∧ lb9 ≤ cb9) := by
        obtain ⟨v0, q, ro⟩ := (hfactss 4 (by decide) rfl).p4 rfl
        rw [e9s] at q
        exact ring_owns q ro
      obtain ⟨d6s, k6s⟩ : w2.heap.size ≤ b6 ∧ Blk w3s b6 24 #[.int .i64 0, .int .i64 0, .slice none 0 0, .slice none 0 0] := by
        obtain ⟨g, q, h1, h2⟩ := (hfactss 8 (by decide) rfl).p8 rfl
        rw [e6s] at q
        injection q with q
        injection q with q
        injection q with q
        subst q
        exact ⟨h1, h2⟩
      have nAs : ∀ a, A9 = some a → a.block ≠ b6 := fun a ha e => haparts 4 8 (by decide) (by decide) (by decide) rfl rfl a.block (by rw [e9s, ha]; simp [blocksOf, sliceBlocks]) (by rw [e6s, e]; simp [blocksOf])
      have nBs : ∀ a, B9 = some a → a.block ≠ b6 := fun a ha e => haparts 4 8 (by decide) (by decide) (by decide) rfl rfl a.block (by rw [e9s, ha]; simp [blocksOf, sliceBlocks]) (by rw [e6s, e]; simp [blocksOf])
      have c0s := k6s.cell 0
      have c1s' := k6s.cell 1
      have c2s' := k6s.cell 2
      have c3s' := k6s.cell 3
      have f0s := k6s.frozen 0
      have f1s := k6s.frozen 1
      have f2s := k6s.frozen 2
      have f3s := k6s.frozen 3
      simp at c0s c1s' c2s' c3s'
      clear hfactss haparts hvss eas ecs e9s e6s
      go_upto_region 9 with (fail)
      obtain ⟨U, hU⟩ : ∃ U, store4 w3s b6 (.int .i64 n9) (.int .i64 o9) (.slice A9 la9 ca9) (.slice B9 lb9 cb9) = U := ⟨_, rfl⟩
      have hU' := hU
      unfold store4 at hU'
      have K6s := Lib.hid (C4.of (show Blk U b6 24 #[.int .i64 n9, .int .i64 o9, .slice A9 la9 ca9, .slice B9 lb9 cb9] by rw [← hU]; exact store4_blk k6s))
      have BUs := Lib.hid (show Below w2.heap.size w2 U by rw [← hU]; exact store4_below hb3s d6s)
      have OAs := Lib.hid (show Own U w2.heap.size A9 la9 Z9 by rw [← hU]; exact store4_ownN oAs nAs)
      have OBs := Lib.hid (show Own U w2.heap.size B9 lb9 T9 by rw [← hU]; exact store4_ownN oBs nBs)
      rw [hU']
      clear hU hU' c0s c1s' c2s' c3s' f0s f1s f2s f3s oAs oBs k6s nAs nBs hb3s cWs kxs ps0 ps1 ps2 ps3 qs0 qs1 qs2 qs3 hVqs
      have K1u := Lib.hid ((C4.of K1.out).next BUs.out)
      have K2u := Lib.hid ((C4.of K2.out).next BUs.out)
      have JX := Lib.hid (IX.out.next BUs.out)
      have JY := Lib.hid (IY.out.next BUs.out)
      have JX' := Lib.hid (IX'.out.next BUs.out)
      have JY' := Lib.hid (IY'.out.next BUs.out)
      have JA := Lib.hid OAs.out.ints
      have JB := Lib.hid OBs.out.ints
      have BBU := Lib.hid (BB.out.trans (BUs.out.mono BB.out.size))
      obtain ⟨_, bl1, bl2, bl3, _, _⟩ := aps
      clear f0 f1 f2 f3 g0 g1 g2 g3 c0 c1 c2 c3 d0 d1 d2 d3
      obtain ⟨_, k0, k1, k2, k3⟩ := K1u.out
      go_wp2_with (fail)
      refine (toRing_any n o A B la ca lb cb X Y U JX.out JY.out hs1 hs2).mono ?_
      rintro e9 w9 ⟨x1, x2, rfl, ow1, ow2, hlt9, hb9⟩
      have XA9 := Lib.hid (own_of_row ow1 JX.out.1)
      have XB9 := Lib.hid (own_of_row ow2 JY.out.1)
      clear ow1 ow2 k0 k1 k2 k3
      go_upto_region 10 with (fail)
      obtain ⟨V9, hV9⟩ : ∃ V9, w9.alloc (.cells #[.int .i64 n, .int .i64 o, .slice (some ⟨x1, 0, none⟩) la la, .slice (some ⟨x2, 0, none⟩) lb lb] 24) = V9 := ⟨_, rfl⟩
      have bV9 : Below w9.heap.size w9 V9 := by subst hV9; exact (Below.refl _ _).alloc (Nat.le_refl _) _
      have K8 := Lib.hid (C4.of (show Blk V9 w9.heap.size 24 #[.int .i64 n, .int .i64 o, .slice (some ⟨x1, 0, none⟩) la la, .slice (some ⟨x2, 0, none⟩) lb lb] by subst hV9; exact Blk.new w9 _ _))
      rw [hV9]
      clear hV9
      have BX := Lib.hid (hb9.trans (bV9.mono hb9.size))
      have XA := Lib.hid (XA9.out.next bV9)
      have XB := Lib.hid (XB9.out.next bV9)
      have s9 := hb9.size
      have s9' := bV9.size
      clear hb9 bV9
      obtain ⟨_, k0, k1, k2, k3⟩ := K2u.out.next BX.out
      go_wp2_with (fail)
      refine (toRing_any n' o' A' B' la' ca' lb' cb' X' Y' V9 (JX'.out.next BX.out) (JY'.out.next BX.out) hs3 hs4).mono ?_
      rintro e10 w10 ⟨y1, y2, rfl, ow1, ow2, hlt10, hb10⟩
      have YA10 := Lib.hid (own_of_row ow1 JX'.out.1)
      have YB10 := Lib.hid (own_of_row ow2 JY'.out.1)
      clear ow1 ow2 k0 k1 k2 k3
      go_upto_region 11 with (fail)
      obtain ⟨V10, hV10⟩ : ∃ V10, w10.alloc (.cells #[.int .i64 n', .int .i64 o', .slice (some ⟨y1, 0, none⟩) la' la', .slice (some ⟨y2, 0, none⟩) lb' lb'] 24) = V10 := ⟨_, rfl⟩
      have bV10 : Below w10.heap.size w10 V10 := by subst hV10; exact (Below.refl _ _).alloc (Nat.le_refl _) _
      have K9 := Lib.hid (C4.of (show Blk V10 w10.heap.size 24 #[.int .i64 n', .int .i64 o', .slice (some ⟨y1, 0, none⟩) la' la', .slice (some ⟨y2, 0, none⟩) lb' lb'] by subst hV10; exact Blk.new w10 _ _))
      rw [hV10]
      clear hV10
      have BV10 := Lib.hid (hb10.trans (bV10.mono hb10.size))
      have YA := Lib.hid (YA10.out.next bV10)
      have YB := Lib.hid (YB10.out.next bV10)
      have s10 := hb10.size
      have s10' := bV10.size
      have K8 := Lib.hid (K8.out.next BV10.out)
      have XA := Lib.hid (XA.out.next BV10.out)
      have XB := Lib.hid (XB.out.next BV10.out)
      have BX := Lib.hid (BX.out.trans (BV10.out.mono BX.out.size))
      clear hb10 bV10
      obtain ⟨_, k0, k1, k2, k3⟩ := K8.out
      obtain ⟨_, h0, h1, h2, h3⟩ := K9.out
      go_wp2_with (fail)
      refine (productB_any n o _ _ la la lb lb X Y n' o' _ _ la' la' lb' lb' X' Y' V10 XA.out.ints XB.out.ints hla hlb (Nat.le_refl _) (Nat.le_refl _) YA.out.ints YB.out.ints hla' hlb' (Nat.le_refl _) (Nat.le_refl _)).mono ?_
      rw [EOK.out, EN.out, EO.out, EZ.out, ET.out]
      rintro e11 w11 ⟨v11, rfl, ⟨A1, la1, ca1, B1, lb1, cb1, rfl, oA, oB, ⟨ap, _, _, _, _, _⟩, _, _⟩, hb11⟩
      have ela : la1 = la9 := by rw [← oA.1, OAs.out.1]
      have elb : lb1 = lb9 := by rw [← oB.1, OBs.out.1]
      subst ela
      subst elb
      have GA11 := Lib.hid oA
      have GB11 := Lib.hid oB
      have AP := Lib.hid ap
      clear oA oB ap k0 k1 k2 k3 h0 h1 h2 h3
      go_upto_region 12 with (fail)
      obtain ⟨V11, hV11⟩ : ∃ V11, w11.alloc (.cells #[.int .i64 n9, .int .i64 o9, .slice A1 la1 ca1, .slice B1 lb1 cb1] 24) = V11 := ⟨_, rfl⟩
      have bV11 : Below w11.heap.size w11 V11 := by subst hV11; exact (Below.refl _ _).alloc (Nat.le_refl _) _
      have K10 := Lib.hid (C4.of (show Blk V11 w11.heap.size 24 #[.int .i64 n9, .int .i64 o9, .slice A1 la1 ca1, .slice B1 lb1 cb1] by subst hV11; exact Blk.new w11 _ _))
      rw [hV11]
      clear hV11
      have BV11 := Lib.hid (hb11.trans (bV11.mono hb11.size))
      have GA := Lib.hid (GA11.out.next bV11)
      have GB := Lib.hid (GB11.out.next bV11)
      have s11 := hb11.size
      have s11' := bV11.size
      have K8 := Lib.hid (K8.out.next BV11.out)
      have K9 := Lib.hid (K9.out.next BV11.out)
      have XA := Lib.hid (XA.out.next BV11.out)
      have XB := Lib.hid (XB.out.next BV11.out)
      have YA := Lib.hid (YA.out.next BV11.out)
      have YB := Lib.hid (YB.out.next BV11.out)
      have BX := Lib.hid (BX.out.trans (BV11.out.mono BX.out.size))
      clear hb11 bV11
      obtain ⟨_, k0, k1, k2, k3⟩ := K10.out
      obtain ⟨_, h0, h1, h2, h3⟩ := K6s.out.next BX.out
      go_wp2_with (fail)
      refine (eqRing_same n9 o9 A1 B1 A9 B9 la1 ca1 lb1 cb1 ca9 cb9 Z9 T9 V11 GA.out.ints GB.out.ints (JA.out.next BX.out) (JB.out.next BX.out) (by omega) (by omega)).mono ?_
      rintro e12 w12 ⟨rfl, hb12⟩
      have K8 := Lib.hid (K8.out.next hb12)
      have K9 := Lib.hid (K9.out.next hb12)
      have K10 := Lib.hid (K10.out.next hb12)
      have XA := Lib.hid (XA.out.next hb12)
      have XB := Lib.hid (XB.out.next hb12)
      have YA := Lib.hid (YA.out.next hb12)
      have YB := Lib.hid (YB.out.next hb12)
      have GA := Lib.hid (GA.out.next hb12)
      have GB := Lib.hid (GB.out.next hb12)
      have BX := Lib.hid (BX.out.trans (hb12.mono BX.out.size))
      have s12 := hb12.size
      clear hb12 k0 k1 k2 k3 h0 h1 h2 h3
      have tt : (ok != ok) = false := by simp
      go_wp2_with (fail)
      have hd12 : Below w12.heap.size w12 w12.drew := (Below.refl _ _).drew
      have K8 := Lib.hid (K8.out.next hd12)
      have K9 := Lib.hid (K9.out.next hd12)
      have K10 := Lib.hid (K10.out.next hd12)
      have XA := Lib.hid (XA.out.next hd12)
      have XB := Lib.hid (XB.out.next hd12)
      have YA := Lib.hid (YA.out.next hd12)
      have YB := Lib.hid (YB.out.next hd12)
      have GA := Lib.hid (GA.out.next hd12)
      have GB := Lib.hid (GB.out.next hd12)
      have BX := Lib.hid (BX.out.trans (hd12.mono BX.out.size))
      obtain ⟨_, t0, t1, t2, t3⟩ := K1u.out.next BX.out
      obtain ⟨_, m0, m1, m2, m3⟩ := K8.out
      go_region_held3 (fun w' => w'.cell? ⟨w.heap.size, 0, none⟩ = some (.int .i64 n) ∧ w'.cell? ⟨w.heap.size, 1, none⟩ = some (.int .i64 o) ∧ w'.cell? ⟨w.heap.size, 2, none⟩ = some (.slice A la ca) ∧ w'.cell? ⟨w.heap.size, 3, none⟩ = some (.slice B lb cb) ∧ w'.cell? ⟨w9.heap.size, 0, none⟩ = some (.int .i64 n) ∧ w'.cell? ⟨w9.heap.size, 1, none⟩ = some (.int .i64 o) ∧ w'.cell? ⟨w9.heap.size, 2, none⟩ = some (.slice (some ⟨x1, 0, none⟩) la la) ∧ w'.cell? ⟨w9.heap.size, 3, none⟩ = some (.slice (some ⟨x2, 0, none⟩) lb lb))
        (first | exact ⟨t0, t1, t2, t3, m0, m1, m2, m3⟩ | exact ⟨k0, k1, k2, k3, l0, l1, l2, l3⟩ | exact ⟨p0, p1, p2, p3, q0, q1, q2, q3⟩)
        (first
          | (go_at_call 26; refine (toRing_any n o A B la ca lb cb X Y _ (JX.out.next BX.out) (JY.out.next BX.out) hs1 hs2).mono ?_; rintro e13 w13 ⟨a1, a2, rfl, ow1, ow2, _, hb13⟩; have aI1 := Lib.hid (ints_of_own ow1 JX.out.1); have aI2 := Lib.hid (ints_of_own ow2 JY.out.1); have s13 : w12.heap.size ≤ w13.heap.size := hb13.size; have K8 := Lib.hid (K8.out.next hb13); have K9 := Lib.hid (K9.out.next hb13); have K10 := Lib.hid (K10.out.next hb13); have XA := Lib.hid (XA.out.next hb13); have XB := Lib.hid (XB.out.next hb13); have YA := Lib.hid (YA.out.next hb13); have YB := Lib.hid (YB.out.next hb13); have GA := Lib.hid (GA.out.next hb13); have GB := Lib.hid (GB.out.next hb13); have BX := Lib.hid (BX.out.trans (hb13.mono BX.out.size)); clear ow1 ow2 hb13; obtain ⟨_, k0, k1, k2, k3⟩ := K1u.out.next BX.out; obtain ⟨_, l0, l1, l2, l3⟩ := K8.out)
          | (go_at_call 21; refine (eqRing_same n o _ _ _ _ la la lb lb la lb X Y _ XA.out.ints XB.out.ints aI1.out aI2.out hla hlb).mono ?_; rintro e14 w14 ⟨rfl, hb14⟩; have s14 : w13.heap.size ≤ w14.heap.size := hb14.size; have K8 := Lib.hid (K8.out.next hb14); have K9 := Lib.hid (K9.out.next hb14); have K10 := Lib.hid (K10.out.next hb14); have XA := Lib.hid (XA.out.next hb14); have XB := Lib.hid (XB.out.next hb14); have YA := Lib.hid (YA.out.next hb14); have YB := Lib.hid (YB.out.next hb14); have GA := Lib.hid (GA.out.next hb14); have GB := Lib.hid (GB.out.next hb14); have BX := Lib.hid (BX.out.trans (hb14.mono BX.out.size)); clear hb14; obtain ⟨_, p0, p1, p2, p3⟩ := K1u.out.next BX.out; obtain ⟨_, q0, q1, q2, q3⟩ := K8.out))
      go_wp2_with (fail)
      have hd14 : Below w14.heap.size w14 w14.drew := (Below.refl _ _).drew
      have K8 := Lib.hid (K8.out.next hd14)
      have K9 := Lib.hid (K9.out.next hd14)
      have K10 := Lib.hid (K10.out.next hd14)
      have XA := Lib.hid (XA.out.next hd14)
      have XB := Lib.hid (XB.out.next hd14)
      have YA := Lib.hid (YA.out.next hd14)
      have YB := Lib.hid (YB.out.next hd14)
      have GA := Lib.hid (GA.out.next hd14)
      have GB := Lib.hid (GB.out.next hd14)
      have BX := Lib.hid (BX.out.trans (hd14.mono BX.out.size))
      clear t0 t1 t2 t3 m0 m1 m2 m3 k0 k1 k2 k3 l0 l1 l2 l3 p0 p1 p2 p3 q0 q1 q2 q3
      obtain ⟨_, t0, t1, t2, t3⟩ := K2u.out.next BX.out
      obtain ⟨_, m0, m1, m2, m3⟩ := K9.out
      go_region_held3 (fun w' => w'.cell? ⟨w.heap.size + 1, 0, none⟩ = some (.int .i64 n') ∧ w'.cell? ⟨w.heap.size + 1, 1, none⟩ = some (.int .i64 o') ∧ w'.cell? ⟨w.heap.size + 1, 2, none⟩ = some (.slice A' la' ca') ∧ w'.cell? ⟨w.heap.size + 1, 3, none⟩ = some (.slice B' lb' cb') ∧ w'.cell? ⟨w10.heap.size, 0, none⟩ = some (.int .i64 n') ∧ w'.cell? ⟨w10.heap.size, 1, none⟩ = some (.int .i64 o') ∧ w'.cell? ⟨w10.heap.size, 2, none⟩ = some (.slice (some ⟨y1, 0, none⟩) la' la') ∧ w'.cell? ⟨w10.heap.size, 3, none⟩ = some (.slice (some ⟨y2, 0, none⟩) lb' lb'))
        (first | exact ⟨t0, t1, t2, t3, m0, m1, m2, m3⟩ | exact ⟨k0, k1, k2, k3, l0, l1, l2, l3⟩ | exact ⟨p0, p1, p2, p3, q0, q1, q2, q3⟩)
        (first
          | (go_at_call 26; refine (toRing_any n' o' A' B' la' ca' lb' cb' X' Y' _ (JX'.out.next BX.out) (JY'.out.next BX.out) hs3 hs4).mono ?_; rintro e15 w15 ⟨a1, a2, rfl, ow1, ow2, _, hb15⟩; have bI1 := Lib.hid (ints_of_own ow1 JX'.out.1); have bI2 := Lib.hid (ints_of_own ow2 JY'.out.1); have s15 : w14.heap.size ≤ w15.heap.size := hb15.size; have K8 := Lib.hid (K8.out.next hb15); have K9 := Lib.hid (K9.out.next hb15); have K10 := Lib.hid (K10.out.next hb15); have XA := Lib.hid (XA.out.next hb15); have XB := Lib.hid (XB.out.next hb15); have YA := Lib.hid (YA.out.next hb15); have YB := Lib.hid (YB.out.next hb15); have GA := Lib.hid (GA.out.next hb15); have GB := Lib.hid (GB.out.next hb15); have BX := Lib.hid (BX.out.trans (hb15.mono BX.out.size)); clear ow1 ow2 hb15; obtain ⟨_, k0, k1, k2, k3⟩ := K2u.out.next BX.out; obtain ⟨_, l0, l1, l2, l3⟩ := K9.out)
          | (go_at_call 21; refine (eqRing_same n' o' _ _ _ _ la' la' lb' lb' la' lb' X' Y' _ YA.out.ints YB.out.ints bI1.out bI2.out hla' hlb').mono ?_; rintro e16 w16 ⟨rfl, hb16⟩; have s16 : w15.heap.size ≤ w16.heap.size := hb16.size; have K8 := Lib.hid (K8.out.next hb16); have K9 := Lib.hid (K9.out.next hb16); have K10 := Lib.hid (K10.out.next hb16); have XA := Lib.hid (XA.out.next hb16); have XB := Lib.hid (XB.out.next hb16); have YA := Lib.hid (YA.out.next hb16); have YB := Lib.hid (YB.out.next hb16); have GA := Lib.hid (GA.out.next hb16); have GB := Lib.hid (GB.out.next hb16); have BX := Lib.hid (BX.out.trans (hb16.mono BX.out.size)); clear hb16; obtain ⟨_, p0, p1, p2, p3⟩ := K2u.out.next BX.out; obtain ⟨_, q0, q1, q2, q3⟩ := K9.out))
      clear t0 t1 t2 t3 m0 m1 m2 m3 k0 k1 k2 k3 l0 l1 l2 l3 p0 p1 p2 p3 q0 q1 q2 q3
      obtain ⟨_, k0, k1, k2, k3⟩ := K8.out
      go_wp2_with (fail)
      refine (markRingB_any n o (some ⟨x1, 0, none⟩) (some ⟨x2, 0, none⟩) la la lb lb X Y 1 w16 U.heap.size XA.out XB.out (apart_ne (Nat.ne_of_lt hlt9)) (by omega) hs1 hs2 (by omega) (by omega)).mono ?_
      rintro e19 w19 ⟨rfl, _, _, keep, hb19⟩
      have s19 := hb19.size
      have r1 : w9.heap.size ≤ w10.heap.size := by omega
      have r2 : w9.heap.size ≤ w11.heap.size := by omega
      have r3 : w9.heap.size ≤ V10.heap.size := by omega
      have r4 : w10.heap.size ≤ w11.heap.size := by omega
      have K9 := Lib.hid (K9.out.keep s19 (fun p hp => (keep p (by rw [hp]; exact K9.out.1) (own_old XA9.out (by rw [hp]; exact r1)) (own_old XB9.out (by rw [hp]; exact r1))).1))
      have K10 := Lib.hid (K10.out.keep s19 (fun p hp => (keep p (by rw [hp]; exact K10.out.1) (own_old XA9.out (by rw [hp]; exact r2)) (own_old XB9.out (by rw [hp]; exact r2))).1))
      have YA := Lib.hid (YA.out.keep s19 (fun p hD hp => keep p hp (own_old XA9.out (Nat.le_trans s9' hD)) (own_old XB9.out (Nat.le_trans s9' hD))))
      have YB := Lib.hid (YB.out.keep s19 (fun p hD hp => keep p hp (own_old XA9.out (Nat.le_trans s9' hD)) (own_old XB9.out (Nat.le_trans s9' hD))))
      have GA := Lib.hid (GA.out.keep s19 (fun p hD hp => keep p hp (own_old XA9.out (Nat.le_trans r3 hD)) (own_old XB9.out (Nat.le_trans r3 hD))))
      have GB := Lib.hid (GB.out.keep s19 (fun p hD hp => keep p hp (own_old XA9.out (Nat.le_trans r3 hD)) (own_old XB9.out (Nat.le_trans r3 hD))))
      have BX := Lib.hid (BX.out.trans hb19)
      clear keep hb19 k0 k1 k2 k3
      obtain ⟨_, k0, k1, k2, k3⟩ := K9.out
      go_wp2_with (fail)
      refine (markRingB_any n' o' (some ⟨y1, 0, none⟩) (some ⟨y2, 0, none⟩) la' la' lb' lb' X' Y' (1 + la + lb) w19 V9.heap.size YA.out YB.out (apart_ne (Nat.ne_of_lt hlt10)) (by omega) hs3 hs4 (by omega) (by omega)).mono ?_
      rintro e20 w20 ⟨rfl, _, _, keep, hb20⟩
      have s20 := hb20.size
      have K10 := Lib.hid (K10.out.keep s20 (fun p hp => (keep p (by rw [hp]; exact K10.out.1) (own_old YA10.out (by rw [hp]; exact r4)) (own_old YB10.out (by rw [hp]; exact r4))).1))
      have GA := Lib.hid (GA.out.keep s20 (fun p hD hp => keep p hp (own_old YA10.out (Nat.le_trans s10' hD)) (own_old YB10.out (Nat.le_trans s10' hD))))
      have GB := Lib.hid (GB.out.keep s20 (fun p hD hp => keep p hp (own_old YA10.out (Nat.le_trans s10' hD)) (own_old YB10.out (Nat.le_trans s10' hD))))
      have BX := Lib.hid (BX.out.trans (hb20.mono (Nat.le_trans s9 s9')))
      clear keep hb20 k0 k1 k2 k3
      obtain ⟨_, k0, k1, k2, k3⟩ := K10.out
      obtain ⟨_, h0, h1, h2, h3⟩ := K6s.out.next BX.out
      go_wp2_with (fail)
      refine (eqRing_same n9 o9 A1 B1 A9 B9 la1 ca1 lb1 cb1 ca9 cb9 Z9 T9 w20 GA.out.ints GB.out.ints (JA.out.next BX.out) (JB.out.next BX.out) (by omega) (by omega)).mono ?_
      rintro e21 w21 ⟨rfl, hb21⟩
      have s21 := hb21.size
      have K10 := Lib.hid (K10.out.next hb21)
      have GA := Lib.hid (GA.out.next hb21)
      have GB := Lib.hid (GB.out.next hb21)
      have BX := Lib.hid (BX.out.trans (hb21.mono BX.out.size))
      clear hb21 k0 k1 k2 k3 h0 h1 h2 h3
      obtain ⟨_, k0, k1, k2, k3⟩ := K10.out
      go_wp2_with (fail)
      refine (markRing_any n9 o9 A1 B1 la1 ca1 lb1 cb1 Z9 T9 1 w21 V10.heap.size GA.out GB.out AP.out (by omega) (by omega) (by omega) (by omega) (by omega)).mono ?_
      rintro e24 w24 ⟨rfl, mA, mB, keep, hb24⟩
      have s24 := hb24.size
      have K10 := Lib.hid (K10.out.keep s24 (fun p hp => (keep p (by rw [hp]; exact K10.out.1) (own_old GA11.out (by rw [hp]; exact Nat.le_refl _)) (own_old GB11.out (by rw [hp]; exact Nat.le_refl _))).1))
      have MA := Lib.hid mA
      have MB := Lib.hid mB
      have BX := Lib.hid (BX.out.trans (hb24.mono (by omega)))
      clear keep hb24 mA mB k0 k1 k2 k3
      obtain ⟨_, k0, k1, k2, k3⟩ := K10.out
      go_wp2_with (fail)
      refine (heldRing_any n9 o9 A1 B1 la1 ca1 lb1 cb1 (markL Z9 la1 1 la1) (markL T9 lb1 (1 + la1) lb1) 1 w24 MA.out.ints MB.out.ints held_mark held_mark (by omega) (by omega) (by omega) (by omega)).mono ?_
      rintro e26 w26 ⟨rfl, hb26⟩
      have s26 := hb26.size
      have K10 := Lib.hid (K10.out.next hb26)
      have MA := Lib.hid (MA.out.next hb26)
      have MB := Lib.hid (MB.out.next hb26)
      have BX := Lib.hid (BX.out.trans (hb26.mono BX.out.size))
      clear hb26 k0 k1 k2 k3
      have tn : ((1 : Int) + la1 + lb1 != 1 + la1 + lb1) = false := by simp
      obtain ⟨_, k0, k1, k2, k3⟩ := K1u.out.next BX.out
      obtain ⟨_, h0, h1, h2, h3⟩ := K2u.out.next BX.out
      go_upto_region 31 with (fail)
      refine wp_region_float 9 7 _ callMk (CallPhi n o n' o' la lb la' lb' X Y X' Y' w26.heap.size n9 o9 Z9 T9 ok) (CallSh n o n' o' la lb la' lb' n9 o9 ok) (call0 n o n' o' la lb la' lb' n9 o9 ok) probe (by kernel_rfl) (by kernel_rfl) rfl rfl (extract_pure rfl) rfl (fun _ _ _ _ h => h) CallPhi_stable (fun i v x _ => CallSh_of i v x) (fun i _ => CallSh_zero i) ?_
      intro Vqt hVqt vst hvst
      obtain ⟨a1t, a2t, eat⟩ := (hvst 1 rfl).p1 rfl
      obtain ⟨c1t, c2t, ect⟩ := (hvst 3 rfl).p3 rfl
      obtain ⟨A2, la2, ca2, B2, lb2, cb2, e9t⟩ := (hvst 4 rfl).p4 rfl
      obtain ⟨b15, e6t⟩ := (hvst 8 rfl).p8 rfl
      have cWt : ∃ x, extC Vqt x := ⟨Vqt, extC_of (Below.refl _ _)⟩
      have kxt : ∀ x, extC Vqt x → Below w26.heap.size w26 x := fun x ⟨u, hu⟩ => by rw [hu]; exact hVqt.trans ((ext_below Vqt u).mono hVqt.size)
      obtain ⟨_, pt0, pt1, pt2, pt3⟩ := (K1u.out.next BX.out).next hVqt
      obtain ⟨_, qt0, qt1, qt2, qt3⟩ := (K2u.out.next BX.out).next hVqt
      simp only [List.take_succ_cons, List.take_zero, List.drop_succ_cons, List.drop_zero]
      refine wpV_quietD cWt 1 0 _ _ (by decide) (by decide) ?_
      simp only [List.take_succ_cons, List.take_zero, List.drop_succ_cons, List.drop_zero]
      repeat (go_big_quiet_step (fail))
      refine wpQuiet_nil ?_
      refine wpV_make_D rfl rfl (fun x hx _ => ?_) ?_
      · unfold makesAtD
        go_simp
        refine ⟨rfl, (toRing_any n o A B la ca lb cb X Y x ((JX.out.next BX.out).next (kxt x hx)) ((JY.out.next BX.out).next (kxt x hx)) hs1 hs2).mono ?_⟩
        rintro _ x' ⟨g1, g2, rfl, o1, o2, _, hb⟩
        exact ⟨_, rfl, hb, ⟨fun _ => ⟨g1, g2, rfl, ints_of_own o1 (JX.out.next BX.out).1, ints_of_own o2 (JY.out.next BX.out).1⟩, fun e => absurd e (by decide), fun e => absurd e (by decide), fun e => absurd e (by decide)⟩, fun b hbb => (by simp [blocksOf] at hbb)⟩
      rw [eat]
      go_simp
      refine wpV_quietD cWt 1 _ _ _ (by decide) (by decide) ?_
      simp only [List.take_succ_cons, List.take_zero, List.drop_succ_cons, List.drop_zero]
      repeat (go_big_quiet_step (fail))
      refine wpQuiet_nil ?_
      refine wpV_make_D rfl rfl (fun x hx _ => ?_) ?_
      · unfold makesAtD
        go_simp
        refine ⟨rfl, (toRing_any n' o' A' B' la' ca' lb' cb' X' Y' x ((JX'.out.next BX.out).next (kxt x hx)) ((JY'.out.next BX.out).next (kxt x hx)) hs3 hs4).mono ?_⟩
        rintro _ x' ⟨g1, g2, rfl, o1, o2, _, hb⟩
        exact ⟨_, rfl, hb, ⟨fun e => absurd e (by decide), fun _ => ⟨g1, g2, rfl, ints_of_own o1 (JX'.out.next BX.out).1, ints_of_own o2 (JY'.out.next BX.out).1⟩, fun e => absurd e (by decide), fun e => absurd e (by decide)⟩, fun b hbb => (by simp [blocksOf] at hbb)⟩
      rw [ect]
      go_simp
      refine wpV_make_D rfl rfl (fun x hx hd => ?_) ?_
      · obtain ⟨g1, g2, q1, i1, i2⟩ := (hd ⟨1, .data⟩ (by simp) rfl rfl).p1 rfl
        obtain ⟨g3, g4, q2, i3, i4⟩ := (hd ⟨3, .data⟩ (by simp) rfl rfl).p3 rfl
        rw [eat] at q1
        rw [ect] at q2
        simp only [Value.agg.injEq, Array.mk.injEq, List.cons.injEq, Value.slice.injEq, Option.some.injEq, Addr.mk.injEq, true_and, and_true] at q1 q2
        obtain ⟨rfl, rfl⟩ := q1
        obtain ⟨rfl, rfl⟩ := q2
        unfold makesAtD
        go_simp
        refine ⟨rfl, (productB_any n o _ _ la la lb lb X Y n' o' _ _ la' la' lb' lb' X' Y' x i1 i2 hla hlb (Nat.le_refl _) (Nat.le_refl _) i3 i4 hla' hlb' (Nat.le_refl _) (Nat.le_refl _)).mono ?_⟩
        rintro _ x' ⟨v0, rfl, ro, hb⟩
        refine ⟨_, by rw [EOK.out], hb, ⟨fun e => absurd e (by decide), fun e => absurd e (by decide), fun _ => ⟨v0, rfl, (by rw [EN.out, EO.out, EZ.out, ET.out] at ro; exact ro.lower (kxt x hx).size)⟩, fun e => absurd e (by decide)⟩, fun b hbb => ring_fresh ro hbb⟩
      rw [e9t]
      go_simp
      refine wpV_quietD cWt 3 _ _ _ (by decide) (by decide) ?_
      simp only [List.take_succ_cons, List.take_zero, List.drop_succ_cons, List.drop_zero]
      repeat (go_big_quiet_step (fail))
      refine wpQuiet_nil ?_
      refine wpV_make_D rfl rfl (fun x hx _ => makesD_box rfl x (kxt x hx).size) ?_
      rw [e6t]
      go_simp
      refine wpV_nilD ?_
      intro w3t hb3t hfactst hapartt
      obtain ⟨oAt, oBt, apt⟩ : Own w3t w26.heap.size A2 la2 Z9 ∧ Own w3t w26.heap.size B2 lb2 T9 ∧ (Apart A2 la2 B2 lb2 ∧ la2 ≤ 1048570 ∧ lb2 ≤ 1048570 ∧ la2 + lb2 ≤ 1048570 ∧ la2 ≤ ca2 ∧ lb2 ≤ cb2) := by
        obtain ⟨v0, q, ro⟩ := (hfactst 4 (by decide) rfl).p4 rfl
        rw [e9t] at q
        exact ring_owns q ro
      obtain ⟨d6t, k6t⟩ : w26.heap.size ≤ b15 ∧ Blk w3t b15 24 #[.int .i64 0, .int .i64 0, .slice none 0 0, .slice none 0 0] := by
        obtain ⟨g, q, h1, h2⟩ := (hfactst 8 (by decide) rfl).p8 rfl
        rw [e6t] at q
        injection q with q
        injection q with q
        injection q with q
        subst q
        exact ⟨h1, h2⟩
      have nAt : ∀ a, A2 = some a → a.block ≠ b15 := fun a ha e => hapartt 4 8 (by decide) (by decide) (by decide) rfl rfl a.block (by rw [e9t, ha]; simp [blocksOf, sliceBlocks]) (by rw [e6t, e]; simp [blocksOf])
      have nBt : ∀ a, B2 = some a → a.block ≠ b15 := fun a ha e => hapartt 4 8 (by decide) (by decide) (by decide) rfl rfl a.block (by rw [e9t, ha]; simp [blocksOf, sliceBlocks]) (by rw [e6t, e]; simp [blocksOf])
      have c0t := k6t.cell 0
      have c1t' := k6t.cell 1
      have c2t' := k6t.cell 2
      have c3t' := k6t.cell 3
      have f0t := k6t.frozen 0
      have f1t := k6t.frozen 1
      have f2t := k6t.frozen 2
      have f3t := k6t.frozen 3
      simp at c0t c1t' c2t' c3t'
      clear hfactst hapartt hvst eat ect e9t e6t
      go_upto_region 32 with (fail)
      obtain ⟨U2, hU2⟩ : ∃ U2, store4 w3t b15 (.int .i64 n9) (.int .i64 o9) (.slice A2 la2 ca2) (.slice B2 lb2 cb2) = U2 := ⟨_, rfl⟩
      have hU2' := hU2
      unfold store4 at hU2'
      have K6t := Lib.hid (C4.of (show Blk U2 b15 24 #[.int .i64 n9, .int .i64 o9, .slice A2 la2 ca2, .slice B2 lb2 cb2] by rw [← hU2]; exact store4_blk k6t))
      have BUt := Lib.hid (show Below w26.heap.size w26 U2 by rw [← hU2]; exact store4_below hb3t d6t)
      have OAt := Lib.hid (show Own U2 w26.heap.size A2 la2 Z9 by rw [← hU2]; exact store4_ownN oAt nAt)
      have OBt := Lib.hid (show Own U2 w26.heap.size B2 lb2 T9 by rw [← hU2]; exact store4_ownN oBt nBt)
      rw [hU2']
      clear hU2 hU2' c0t c1t' c2t' c3t' f0t f1t f2t f3t oAt oBt k6t nAt nBt hb3t cWt kxt pt0 pt1 pt2 pt3 qt0 qt1 qt2 qt3 hVqt
      have ela2 : la2 = la1 := by rw [← OAt.out.1, OAs.out.1]
      have elb2 : lb2 = lb1 := by rw [← OBt.out.1, OBs.out.1]
      subst ela2
      subst elb2
      have K10 := Lib.hid (K10.out.next BUt.out)
      have MA := Lib.hid (MA.out.next BUt.out)
      have MB := Lib.hid (MB.out.next BUt.out)
      have BX := Lib.hid (BX.out.trans (BUt.out.mono BX.out.size))
      clear k0 k1 k2 k3 h0 h1 h2 h3
      obtain ⟨_, k0, k1, k2, k3⟩ := K6t.out
      obtain ⟨_, h0, h1, h2, h3⟩ := K6s.out.next BX.out
      go_wp2_with (fail)
      refine (eqRing_same n9 o9 A2 B2 A9 B9 la2 ca2 lb2 cb2 ca9 cb9 Z9 T9 U2 OAt.out.ints OBt.out.ints (JA.out.next BX.out) (JB.out.next BX.out) (by omega) (by omega)).mono ?_
      rintro e32 w32 ⟨rfl, hb32⟩
      have K10 := Lib.hid (K10.out.next hb32)
      have MA := Lib.hid (MA.out.next hb32)
      have MB := Lib.hid (MB.out.next hb32)
      have BX := Lib.hid (BX.out.trans (hb32.mono BX.out.size))
      clear hb32 k0 k1 k2 k3 h0 h1 h2 h3
      obtain ⟨_, k0, k1, k2, k3⟩ := K10.out
      go_wp2_with (fail)
      refine (heldRing_any n9 o9 A1 B1 la2 ca1 lb2 cb1 (markL Z9 la2 1 la2) (markL T9 lb2 (1 + la2) lb2) 1 w32 MA.out.ints MB.out.ints held_mark held_mark (by omega) (by omega) (by omega) (by omega)).mono ?_
      rintro e35 w35 ⟨rfl, hb35⟩
      have tn2 : ((1 : Int) + la2 + lb2 != 1 + la2 + lb2) = false := by simp
      go_wp2
      go_ret
      exact ⟨rfl, (BBU.out.trans (BX.out.mono BBU.out.size)).trans (hb35.mono (Nat.le_trans BBU.out.size BX.out.size))⟩
    · have z2 := Lib.hid (szRq_no hsz2)
      go_enter Try.func4, Try.ntmps4
      go_wp2_with (fail)
      rw [HW.out]
      refine (szRing_any n o A B la ca lb cb 1048576 W (by omega) (by omega) hla hlb).mono ?_
      rintro e1 w1 ⟨rfl, hb1⟩
      rw [z1.out]
      have K1 := Lib.hid (K1.out.next hb1); have K2 := Lib.hid (K2.out.next hb1); have IX := Lib.hid (IX.out.next hb1); have IY := Lib.hid (IY.out.next hb1); have IX' := Lib.hid (IX'.out.next hb1); have IY' := Lib.hid (IY'.out.next hb1); have BB := Lib.hid (below_step BB.out hb1); clear hb1
      obtain ⟨d0, d1, d2, d3⟩ := blk4 K2.out
      go_wp2_with (fail)
      refine (szRing_any n' o' A' B' la' ca' lb' cb' (1048576 - la - lb) w1 (by omega) (by omega) hla' hlb').mono ?_
      rintro e2 w2 ⟨rfl, hb2⟩
      rw [z2.out]
      have BB := Lib.hid (below_step BB.out hb2); clear hb2
      go_wp2
      go_ret
      exact ⟨rfl, BB.out⟩
  · have z1 := Lib.hid (szRq_no hsz)
    go_enter Try.func4, Try.ntmps4
    go_wp2_with (fail)
    rw [HW.out]
    refine (szRing_any n o A B la ca lb cb 1048576 W (by omega) (by omega) hla hlb).mono ?_
    rintro e1 w1 ⟨rfl, hb1⟩
    rw [z1.out]
    have BB := Lib.hid (below_step BB.out hb1); clear hb1
    go_wp2
    go_ret
    exact ⟨rfl, BB.out⟩

end Go.Proofs.Ytplligjoegjngaa
