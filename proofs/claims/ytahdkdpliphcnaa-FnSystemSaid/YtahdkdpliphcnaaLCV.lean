
import Derived.Test.YtahdkdpliphcnaaLCU
/- The drawing side: DrawSolveSystem. -/
namespace Go.Proofs.Ytahdkdpliphcnaa
open Go.RowKit Go.Shelf
set_option maxRecDepth 100000

theorem LLo_formR {D : Nat} {w : World} {v : Value} {ZZ : List (List Int)} (h : LLo D w v ZZ) : ∃ A c, v = .slice A ZZ.length c := by
  obtain ⟨xs, h1, _⟩ := h
  rcases h1.2 with ⟨e1, e2⟩ | ⟨g, cap, cur, e1, _⟩
  · exact ⟨none, 0, by rw [e1, e2]⟩
  · exact ⟨_, _, e1⟩
theorem results_cell_three {P : Program} {fn : Func} {p u s x : Tmp} {ty : TypeId} (h : fn.results = #[.cell p ty, .tmp u, .tmp s, .tmp x]) (tmps : Array Value) (w : World) (g : Nat) (t : TypeId) (cs : Array Value) (d : TypeDesc) (b c y : Value)
    (hp : tmps.getD p undef = .pointer (some ⟨g, 0, none⟩)) (hb : tmps.getD u undef = b) (hc : tmps.getD s undef = c) (hx : tmps.getD x undef = y) (hg : Blk w g t cs)
    (hu : P.underlying ty = some d) (hd : (match d with | .struct _ | .array _ _ => true | _ => false) = true) (hi : (P.info? ty).map (·.size) = some cs.size) :
    (results fn tmps).run P w = .ok (.tuple #[.agg cs, b, c, y]) w := by
  have e : (results fn tmps).run P w = ((asAddr (tmps.getD p undef)).run P w).andThen fun a w₁ => ((loadVar ty a).run P w₁).andThen fun v w₂ => .ok (.tuple #[v, tmps.getD u undef, tmps.getD s undef, tmps.getD x undef]) w₂ := by
    simp only [results, h]
    simp [Sem.run_bind, Result.andThen]
  rw [e, hp, hb, hc, hx]
  simp [asAddr, run_loadVar_row w g t ty cs (0, 0) d hg hu hd hi]
theorem DRw.store {D b : Nat} {w : World} {v v0 v1 v2 v3 : Value} (h : DRw D w v) (hb : b < D) : DRw D (store4 w b v0 v1 v2 v3) v := h.wk (g := b) (((((Wk.refl b w).set_ 0 _).set_ 1 _).set_ 2 _).set_ 3 _) hb
theorem DRw.lower {D D' : Nat} {w : World} {v : Value} (h : DRw D w v) (hD : D' ≤ D) : DRw D' w v := by
  obtain ⟨RR, h1, h2⟩ := h
  exact ⟨RR, h1.downR hD, h2⟩
/-- Values as they were drawn. -/
def DVl (D : Nat) (w : World) (v : Value) : Prop := ∃ L, SliceOut D w v L ∧ L.length ≤ 4
theorem SliceOut.wk9 {D g : Nat} {w w' : World} {v : Value} {L : List Int} (h : SliceOut D w v L) (hw : Wk g w w') (hg : g < D) : SliceOut D w' v L := by
  obtain ⟨A, l, c, e, h1, h2⟩ := h
  exact ⟨A, l, c, e, h1.wk hw hg, h2⟩

set_option maxHeartbeats 8000000 in
theorem drawSolveSystem_any (A : Option Addr) (n c : Nat) (w : World) (hb : Byts w w.heap.size A n) (hn : n ≤ 1048576) (hc : n ≤ c) (hc2 : c ≤ 9223372036854775807) :
    Calls Try.prog 30 #[.slice A n c] w fun e w' => ∃ (v : Value) (N : Int) (u x : Value), e = .returned (.tuple #[v, .int .i64 N, u, x]) ∧ AnyR w.heap.size w' v ∧ DRw w.heap.size w' u ∧ DVl w.heap.size w' x ∧ Below w.heap.size w w' := by
  obtain ⟨j0, hji, hy0, hy1, hy2⟩ := info_parts int_info
  obtain ⟨W, hW⟩ : ∃ W, w.alloc (.cells #[.int .i64 0, .int .i64 0, .slice none 0 0, .slice none 0 0] 27) = W := ⟨_, rfl⟩
  have hs : W.heap.size = w.heap.size + 1 := by subst hW; simp
  have bW : Below w.heap.size w W := by subst hW; exact (Below.refl _ _).alloc (Nat.le_refl _) _
  have K0 := Lib.hid (show Blk W w.heap.size 27 #[.int .i64 0, .int .i64 0, .slice none 0 0, .slice none 0 0] by subst hW; exact Blk.new w _ _)
  have HB := Lib.hid (hb.grow bW)
  have B0 := Lib.hid bW
  clear bW
  go_enter Try.func30, Try.ntmps30
  go_upto_region 1 with (fail)
  clear hW
  go_wp2_with (fail)
  refine (l13Open_any A n c W HB.out (by omega) hc hc2).mono ?_
  rintro e w1 ⟨rfl, hb1, hr1, hlt1⟩
  obtain ⟨g, hg⟩ : ∃ g, W.heap.size = g := ⟨_, rfl⟩
  rw [hg] at hr1 hlt1 ⊢
  have hgw : w.heap.size < g := by omega
  have K1 := Lib.hid (K0.out.below hb1 (by omega))
  have B1 := Lib.hid (B0.out.trans (hb1.mono (by omega)))
  have R1 := Lib.hid hr1
  clear hb1 hr1 hg hs
  go_wp2_with (fail)
  refine (l10Rows_any g 0 w1 R1.out (by omega)).mono ?_
  rintro e w2 ⟨v, N, u, rfl, hA, hD, hw2, hr2⟩
  have F2 := Lib.hid hA
  obtain ⟨n2, o2, A2, B2, q2, ca2, cb2, X2, Y2, rfl, _⟩ := hA.data
  obtain ⟨RR, hLL, hRl, hls⟩ := hD
  obtain ⟨Au, cu, rfl⟩ := LLo_formR hLL
  have D2 := Lib.hid (show DRw w1.heap.size w2 (.slice Au RR.length cu) from ⟨RR, hLL, hRl, hls⟩)
  obtain ⟨nr, hnr⟩ : ∃ x, RR.length = x := ⟨_, rfl⟩
  rw [hnr] at D2 hRl ⊢
  have K2 := Lib.hid (K1.out.wk hw2 (by omega))
  have X2 := Lib.hid (B1.out.trans (hw2.below (B := w.heap.size) (Nat.le_of_lt hgw) B1.out.size))
  have R2 := Lib.hid hr2
  have s2 := hw2.size
  clear hw2 hr2 hA hLL hls hnr
  go_upto_region 3 with (fail)
  obtain ⟨V, hV⟩ : ∃ V, w2.alloc (.cells #[.int .i64 n2, .int .i64 o2, .slice A2 q2 ca2, .slice B2 q2 cb2] 27) = V := ⟨_, rfl⟩
  have bV : Below w2.heap.size w2 V := by subst hV; exact (Below.refl _ _).alloc (Nat.le_refl _) _
  have kV : Blk V w2.heap.size 27 #[.int .i64 n2, .int .i64 o2, .slice A2 q2 ca2, .slice B2 q2 cb2] := by subst hV; exact Blk.new w2 _ _
  try rw [hV]
  obtain ⟨gb, hgb⟩ : ∃ b, w2.heap.size = b := ⟨_, rfl⟩
  rw [hgb] at kV ⊢
  have KB := Lib.hid kV
  have F3 := Lib.hid (F2.out.next bV)
  have D3 := Lib.hid (D2.out.next bV)
  have K3 := Lib.hid (K2.out.next bV)
  have X3 := Lib.hid (below_step X2.out bV)
  have R3 := Lib.hid (R2.out.next bV)
  have ngb : gb ≠ g := by omega
  have lgV : g < V.heap.size := by have := kV.lt; omega
  have sV := bV.size
  have nK : w.heap.size ≠ g := by omega
  clear hV bV kV hgb
  obtain ⟨U, hU⟩ : ∃ U, V.alloc (.cells #[] 3) = U := ⟨_, rfl⟩
  have bU : Below V.heap.size V U := by subst hU; exact (Below.refl _ _).alloc (Nat.le_refl _) _
  have oU : U.ownsRow V.heap.size 3 1 (.slice (some ⟨V.heap.size, 0, none⟩) 0 0) 0 (([] : List Int).map (.int .i64)) := by
    subst hU
    have := own_lit_K (w := V) (base := V.heap.size) (e := 3) [] (Nat.le_refl _) (by unfold maxLen; simp)
    simpa using this
  have OU := Lib.hid oU
  have XU := Lib.hid (Below.wk (g := g) bU)
  have RU := Lib.hid (R3.out.next bU)
  go_upto_region 4 with (fail)
  try rw [hU]
  clear hU bU oU
  go_wp2
  go_loopg [10, 22] nr (fun gg vs vi wr => ∃ (y : Nat) (L : List Int), y ≤ nr ∧ nr ≤ y + gg ∧ vi = .int .i64 y ∧ L.length = y ∧ wr.ownsRow V.heap.size 3 1 vs y (L.map (.int .i64)) ∧ Wk g V wr ∧ Rdr wr g (100 + 3 * y))
  case atStart => exact ⟨0, [], Nat.zero_le _, by omega, rfl, rfl, OU.out, XU.out, RU.out.more (by omega)⟩
  case round =>
    obtain ⟨y, L, hy, hgg, rfl, hL, hown, hwk, hrd⟩ := hrel
    have OI := Lib.hid hown
    have ZI := Lib.hid hwk
    have RI := Lib.hid hrd
    have HL := Lib.hid hL
    have hsz := hwk.size
    have K7 := Lib.hid (KB.out.wk hwk ngb)
    clear hown hwk hrd hL
    by_cases hlt : y < nr
    · obtain ⟨c0, c1, c2, c3⟩ := blk4 K7.out
      go_wp2_with (fail)
      refine (l1Element_any g (100 + 3 * y) n2 o2 A2 B2 q2 ca2 q2 cb2 _ RI.out (by omega)).mono ?_
      rintro e w8 ⟨z, rfl, _, hw8, hr8⟩
      have Z8 := Lib.hid (ZI.out.trans hw8)
      have R8 := Lib.hid hr8
      have O8 := Lib.hid (OI.out.kept hw8.grown (.inr fun e => by have := (OI.out.lt g e).1; omega))
      have s8 := hw8.size
      clear hw8 hr8 OI ZI RI c0 c1 c2 c3
      have wr2 : Below w8.heap.size w8 (w8.alloc (.cells #[.int .i64 z] 3)) := (Below.refl _ _).alloc (Nat.le_refl _) _
      go_wp2_with (at_builtin; refine wpList_append_own _ rfl _ _ 22 rfl V.heap.size 3 j0 (.int .i64 0) 1 8 Try.underlying22 hji hy0 hy1 hy2 rfl (by decide) _ _ _ rfl (O8.out.alloc _) ⟨w8.heap.size, 0, none⟩ 1 1 [.int .i64 z] rfl rfl (by intro j u hj; match j, hj with | 0, hj => simp at hj; subst hj; simp [Addr.add]) (by intro u hu; simp at hu; subst hu; rfl) (by unfold maxLen; omega) (by omega) (by simp; omega) ?_; intro v9 w9 hown9 hg9 _)
      have B9 := Lib.hid (((Below.refl V.heap.size w8).trans (wr2.mono (by omega))).grown hg9 (by have := wr2.size; omega) (fun k hk => (O8.out.lt k hk).1))
      have O9 := Lib.hid (show w9.ownsRow V.heap.size 3 1 v9 (y + 1) ((L ++ [z]).map (.int .i64)) by rw [List.map_append]; exact hown9)
      clear hown9 hg9 wr2
      go_wp2
      go_roundg (nr - (y + 1))
      case measure => omega
      case rel => exact ⟨y + 1, L ++ [z], by omega, by omega, by go_num, by simp [HL.out], O9.out, Z8.out.on B9.out (Nat.le_refl _), (R8.out.below B9.out lgV).more (by omega)⟩
    · have hyc : y = nr := by omega
      subst hyc
      go_wp2_with (fail)
      refine (pick_any g (100 + 3 * y) 24 _ RI.out (by omega)).mono ?_
      rintro e w8 ⟨z, rfl, _, _, hw8, hr8⟩
      have Z8 := Lib.hid (ZI.out.trans hw8)
      have O8 := Lib.hid (OI.out.kept hw8.grown (.inr fun e => by have := (OI.out.lt g e).1; omega))
      have s8 := hw8.size
      clear hw8 hr8 OI ZI RI
      by_cases hz0' : z = 0
      · subst hz0'
        have wr2 : Below w8.heap.size w8 (w8.alloc (.cells #[.int .i64 0] 3)) := (Below.refl _ _).alloc (Nat.le_refl _) _
        go_wp2_with (at_builtin; refine wpList_append_own _ rfl _ _ 22 rfl V.heap.size 3 j0 (.int .i64 0) 1 8 Try.underlying22 hji hy0 hy1 hy2 rfl (by decide) _ _ _ rfl (O8.out.alloc _) ⟨w8.heap.size, 0, none⟩ 1 1 [.int .i64 0] rfl rfl (by intro j u hj; match j, hj with | 0, hj => simp at hj; subst hj; simp [Addr.add]) (by intro u hu; simp at hu; subst hu; rfl) (by unfold maxLen; omega) (by omega) (by simp; omega) ?_; intro v9 w9 hown9 hg9 _; have B9 := Lib.hid (((Below.refl V.heap.size w8).trans (wr2.mono (by omega))).grown hg9 (by have := wr2.size; omega) (fun k hk => (O8.out.lt k hk).1)); have O9 := Lib.hid (show w9.ownsRow V.heap.size 3 1 v9 (y + 1) ((L ++ [0]).map (.int .i64)) by rw [List.map_append]; exact hown9); have Z9 := Lib.hid (Z8.out.on B9.out (Nat.le_refl _)); have KG := Lib.hid (KB.out.wk Z9.out ngb); have KR := Lib.hid (K3.out.wk Z9.out nK); clear hown9 hg9; obtain ⟨c0, c1, c2, c3⟩ := blk4 KG.out; obtain ⟨d0, d1, d2, d3⟩ := blk4 KR.out; have f0 := KR.out.frozen 0; have f1 := KR.out.frozen 1; have f2 := KR.out.frozen 2; have f3 := KR.out.frozen 3)
        have hL9 : (L ++ [0]).length = y + 1 := by simp [HL.out]
        obtain ⟨A4, l4, q4, rfl, o4, n4, n5⟩ := SliceOut.of_row O9.out hL9 (by omega)
        refine bodyPost_ret (v := .tuple #[.agg #[.int .i64 n2, .int .i64 o2, .slice A2 q2 ca2, .slice B2 q2 cb2], .int .i64 N, .slice Au y cu, .slice A4 l4 q4]) ?_ rfl ⟨_, _, _, _, rfl, ((F3.out.wk Z9.out hlt1).store (b := w.heap.size) (by omega)).lower (by omega), ((D3.out.wk Z9.out hlt1).store (b := w.heap.size) (by omega)).lower (by omega), ⟨L ++ [0], ((SliceOut.wk9 (g := w.heap.size) (⟨A4, l4, q4, rfl, o4, n4, n5⟩ : SliceOut V.heap.size w9 _ _) (((((Wk.refl w.heap.size w9).set_ 0 _).set_ 1 _).set_ 2 _).set_ 3 _) (by omega)).down (by omega)), by omega⟩, store4_below (X3.out.trans (Z9.out.below (B := w.heap.size) (by omega) X3.out.size)) (Nat.le_refl _)⟩
        exact results_cell_three (fn := Try.f30) rfl _ _ w.heap.size 27 _ _ _ _ _ rfl rfl rfl rfl (store4_blk KR.out) Try.underlying27 rfl (by kernel_rfl)
      · have t0 : (z == 0) = false := by rw [beq_eq_false_iff_ne]; exact hz0'
        have KG := Lib.hid (KB.out.wk Z8.out ngb)
        have KR := Lib.hid (K3.out.wk Z8.out nK)
        obtain ⟨c0, c1, c2, c3⟩ := blk4 KG.out
        obtain ⟨d0, d1, d2, d3⟩ := blk4 KR.out
        have f0 := KR.out.frozen 0
        have f1 := KR.out.frozen 1
        have f2 := KR.out.frozen 2
        have f3 := KR.out.frozen 3
        obtain ⟨A4, l4, q4, rfl, o4, n4, n5⟩ := SliceOut.of_row O8.out HL.out (by omega)
        go_wp2_with (fail)
        refine bodyPost_ret (v := .tuple #[.agg #[.int .i64 n2, .int .i64 o2, .slice A2 q2 ca2, .slice B2 q2 cb2], .int .i64 N, .slice Au y cu, .slice A4 l4 q4]) ?_ rfl ⟨_, _, _, _, rfl, ((F3.out.wk Z8.out hlt1).store (b := w.heap.size) (by omega)).lower (by omega), ((D3.out.wk Z8.out hlt1).store (b := w.heap.size) (by omega)).lower (by omega), ⟨L, ((SliceOut.wk9 (g := w.heap.size) (⟨A4, l4, q4, rfl, o4, n4, n5⟩ : SliceOut V.heap.size w8 _ _) (((((Wk.refl w.heap.size w8).set_ 0 _).set_ 1 _).set_ 2 _).set_ 3 _) (by omega)).down (by omega)), by have := HL.out; omega⟩, store4_below (X3.out.trans (Z8.out.below (B := w.heap.size) (by omega) X3.out.size)) (Nat.le_refl _)⟩
        exact results_cell_three (fn := Try.f30) rfl _ _ w.heap.size 27 _ _ _ _ _ rfl rfl rfl rfl (store4_blk KR.out) Try.underlying27 rfl (by kernel_rfl)

end Go.Proofs.Ytahdkdpliphcnaa

