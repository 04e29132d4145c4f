/- Texts of this seat in one: W2 W3 W4 W5 W6 W7 W8. -/
import Derived.Test.YtlcpbdbdiahmjaaME
import Derived.ArgAppend

/- The drawing side: l1Ring, a ring. -/
namespace Go.Proofs.Ytlcpbdbdiahmjaa
open Go.RowKit

theorem Own.wk {w w' : World} {D n g : Nat} {A : Option Addr} {xs : List Int} (h : Own w D A n xs) (hw : Wk g w w') (hg : g < D) : Own w' D A n xs :=
  ⟨h.1, fun hn => by
    obtain ⟨b, off, e, h1, h2, h3⟩ := h.2 hn
    refine ⟨b, off, e, h1, Nat.lt_of_lt_of_le h2 hw.size, fun k hk => ?_⟩
    exact ⟨(hw.cell (p := ⟨b, off + k, none⟩) h2 (by show b ≠ g; omega)).trans (h3 k hk).1, (hw.frozen (p := ⟨b, off + k, none⟩) h2 (by show b ≠ g; omega)).trans (h3 k hk).2⟩⟩
theorem RingOut.wk {D g : Nat} {w w' : World} {v : Value} {n o : Int} {X Y : List Int} (h : RingOut D w v n o X Y) (hw : Wk g w w') (hg : g < D) : RingOut D w' v n o X Y := by
  obtain ⟨A, la, ca, B, lb, cb, e, h1, h2, h3⟩ := h
  exact ⟨A, la, ca, B, lb, cb, e, h1.wk hw hg, h2.wk hw hg, h3⟩
theorem FitS.wk {m D g : Nat} {w w' : World} {v : Value} (h : FitS m D w v) (hw : Wk g w w') (hg : g < D) : FitS m D w' v := by
  obtain ⟨e, X, Y, h1, h2⟩ := h
  exact ⟨e, X, Y, h1.wk hw hg, h2⟩
theorem Wk.grown {g : Nat} {w w' : World} (h : Wk g w w') : w.grownBy w' (some g) := ⟨h.os, h.tape, h.output, h.size, fun k hk hne => h.block k hk fun e => hne (by rw [e])⟩
theorem Tab.wk {w w' : World} {b off m g : Nat} {T : Nat → Nat} (h : Tab w w.heap.size b off m T) (hw : Wk g w w') (hb : b ≠ g) : Tab w' w'.heap.size b off m T :=
  ⟨Nat.lt_of_lt_of_le h.1 hw.size, fun k hk => ⟨(hw.cell (p := ⟨b, off + k, none⟩) h.1 hb).trans (h.2 k hk).1, (h.2 k hk).2⟩⟩
theorem RingAt.wk {w w' : World} {m e b1 o1 la ca b2 o2 lb cb g : Nat} {S P : Nat → Nat} (h : RingAt w m e b1 o1 la ca b2 o2 lb cb S P) (hw : Wk g w w') (h1 : b1 ≠ g) (h2 : b2 ≠ g) : RingAt w' m e b1 o1 la ca b2 o2 lb cb S P :=
  ⟨h.hm, h.hm', h.he, h.hla, h.hlb, h.hca, h.hcb, h.ts.wk hw h1, h.tp.wk hw h2⟩
/-- Reading on: what a reader may still read, by fuel. -/
def RdF (g K : Nat) (f : Nat) (w : World) : Prop := ∃ j, j + f ≤ K ∧ Rdr w g j
theorem RdF.less {g K f : Nat} {w : World} (h : RdF g K (f + 1) w) : RdF g K f w := by
  obtain ⟨j, h1, h2⟩ := h
  exact ⟨j, by omega, h2⟩
theorem RdF.below {g K f : Nat} {w w' : World} (h : RdF g K f w) (hb : Below w.heap.size w w') : RdF g K f w' := by
  obtain ⟨j, h1, h2⟩ := h
  exact ⟨j, h1, h2.next hb⟩
theorem RdF.rdr {g K f : Nat} {w : World} (h : RdF g K f w) : Rdr w g K := by
  obtain ⟨j, h1, h2⟩ := h
  exact h2.more (by omega)
theorem Rdr.below {B g k : Nat} {w w' : World} (h : Rdr w g k) (hb : Below B w w') (hg : g < B) : Rdr w' g k := by
  obtain ⟨A, n, c, p, h1, h2, h3, h4⟩ := h
  exact ⟨A, n, c, p, h1.below hb hg, h2, h3, h4.cells fun q hq => hb.cell (Nat.lt_trans hq hg)⟩
theorem Wk.on {B g : Nat} {w u u' : World} (h : Wk g w u) (hb : Below B u u') (hB : w.heap.size ≤ B) : Wk g w u' :=
  ⟨hb.os.trans h.os, hb.tape.trans h.tape, hb.output.trans h.output, Nat.le_trans h.size hb.size, fun k hk hg => (hb.block k (Nat.lt_of_lt_of_le hk hB)).trans (h.block k hk hg)⟩
instance (g : Nat) (W : World) : Nonempty (ExtR (Wk g) W) := ⟨⟨W, Wk.refl g W⟩⟩
theorem Blk.allR {g b : Nat} {W : World} {t : TypeId} {cs : Array Value} (h : Blk W b t cs) (hb : b ≠ g) (i : Nat) : ∀ u : ExtR (Wk g) W, (extR (Wk g) W u).cell? ⟨b, i, none⟩ = cs[i]? := fun u => (h.wk u.rel hb).cell i

def rgPhi (m D : Nat) (i : Nat) (v : Value) (w : World) : Prop := if i = 13 then FitS m D w v else ∃ x : Nat, v = .int .i64 x ∧ x + 1 < m
def rgSh (m : Nat) (i : Nat) (v : Value) : Prop := if i = 13 then ∃ (f b1 o1 la ca b2 o2 lb cb : Nat), v = .agg #[.int .i64 m, .int .i64 f, .slice (some ⟨b1, o1, none⟩) la ca, .slice (some ⟨b2, o2, none⟩) lb cb] else ∃ x : Nat, v = .int .i64 x ∧ x + 1 < m
theorem rgSh_of {m D : Nat} (i : Nat) (v : Value) (w : World) (h : rgPhi m D i v w) : rgSh m i v := by
  unfold rgPhi at h
  unfold rgSh
  split <;> rename_i e
  · rw [if_pos e] at h
    obtain ⟨f, b1, o1, la, ca, b2, o2, lb, cb, _, _, h, _⟩ := h.at_
    exact ⟨f, b1, o1, la, ca, b2, o2, lb, cb, h⟩
  · rw [if_neg e] at h
    exact h
def rgMk (i : Nat) : Bool := i == 5 || i == 11 || i == 13

set_option maxHeartbeats 4000000 in
set_option maxRecDepth 100000 in
theorem l1Ring_any (g k : Nat) (w : World) (hr : Rdr w g k) (hk : k ≤ 1125899906842000) :
    Calls Try.prog 117 #[.pointer (some ⟨g, 0, none⟩)] w fun e w' => ∃ v, e = .returned v ∧ FitOut w.heap.size w' v ∧ Wk g w w' ∧ Rdr w' g (k + 20) := by
  have hg := hr.lt
  obtain ⟨W, hW⟩ : ∃ W, w.alloc (.cells #[.int .i64 0, .int .i64 0, .slice none 0 0, .slice none 0 0] 25) = W := ⟨_, rfl⟩
  have hw : w.heap.size < W.heap.size := by subst hW; simp
  have bW : Below w.heap.size w W := by subst hW; exact (Below.refl _ _).alloc (Nat.le_refl _) _
  have K0 := Lib.hid (show Blk W w.heap.size 25 #[.int .i64 0, .int .i64 0, .slice none 0 0, .slice none 0 0] by subst hW; exact Blk.new w _ _)
  have X0 := Lib.hid (Below.wk (g := g) bW)
  have R0 := Lib.hid (hr.next bW)
  clear bW
  go_enter Try.func117, Try.ntmps117
  go_upto_region 1 with (fail)
  clear hW
  go_wp2_with ((go_at_call 44; refine (pick_any _ k _ _ R0.out (by omega)).mono ?_; rintro e w1 ⟨x, rfl, h0, h1, hw1, hr1⟩; obtain ⟨j, rfl⟩ := Int.eq_ofNat_of_zero_le h0; have K1 := Lib.hid (K0.out.wk hw1 (by omega)); have X1 := Lib.hid (X0.out.trans hw1); have R1 := Lib.hid hr1; clear hw1 hr1 h0 h1))
  refine (l1Known_any j _).mono ?_
  rintro e w2 ⟨v, rfl, ⟨m, hF⟩, hb2⟩
  have F2 := hF
  obtain ⟨f, b1, o1, la, ca, b2, o2, lb, cb, S, P, rfl, hR, d1, d2⟩ := hF.at_
  have F2 := Lib.hid F2
  have HR := Lib.hid hR
  have K2 := K1.out.next hb2
  have X2 := X1.out.trans (Below.wk hb2)
  have R2 := R1.out.next hb2
  have S1 := X1.out.size
  have S2 := X2.size
  have hm := hR.hm
  have hm' := hR.hm'
  clear hb2 hF
  go_upto_region 2 with (fail)
  obtain ⟨V, hV⟩ : ∃ V, w2.alloc (.cells #[.int .i64 m, .int .i64 f, .slice (some ⟨b1, o1, none⟩) la ca, .slice (some ⟨b2, o2, none⟩) lb cb] 25) = V := ⟨_, rfl⟩
  have bV : Below w2.heap.size w2 V := by subst hV; exact (Below.refl _ _).alloc (Nat.le_refl _) _
  have KV := Lib.hid (show Blk V w2.heap.size 25 #[.int .i64 m, .int .i64 f, .slice (some ⟨b1, o1, none⟩) la ca, .slice (some ⟨b2, o2, none⟩) lb cb] by subst hV; exact Blk.new w2 _ _)
  have K3 := Lib.hid (K2.next bV)
  have X3 := Lib.hid (X2.on bV S2)
  have R3 := Lib.hid (R2.next bV)
  have F3 := Lib.hid (F2.out.next bV)
  have H3 := Lib.hid (HR.out.next bV)
  have SV := Lib.hid bV.size
  have ltV : w2.heap.size < V.heap.size := KV.out.lt
  rw [hV]
  clear hV bV K2 X2 R2 F2 HR
  have gne : w2.heap.size ≠ g := by omega
  have wlt : w.heap.size < w1.heap.size := K1.out.lt
  have wle : w.heap.size ≤ w1.heap.size := S1
  have c0 := KV.out.cell 0
  simp at c0
  by_cases hm2 : 2 < m
  · have t1 : decide ((m : Int) > 2) = true := by simp; omega
    go_wp2_with (fail)
    refine (pick_any _ _ _ _ R3.out (by omega)).mono ?_
    rintro e w3 ⟨x, rfl, h0, h1, hw3, hr3⟩
    obtain ⟨y, rfl⟩ := Int.eq_ofNat_of_zero_le h0
    have K4 := Lib.hid (K3.out.wk hw3 (by omega))
    have KV4 := Lib.hid (KV.out.wk hw3 (by omega))
    have X4 := Lib.hid (X3.out.trans hw3)
    have R4 := Lib.hid hr3
    have F4 := Lib.hid (F3.out.wk hw3 (by omega))
    have WV := Lib.hid hw3
    have H4 := Lib.hid (show w2.heap.size < w3.heap.size from Nat.lt_of_lt_of_le ltV hw3.size)
    clear hw3 hr3 h0 h1 c0
    by_cases hy : y = 0
    · subst hy
      have t2 : (((0 : Nat) : Int) == 0) = true := rfl
      go_upto_region 3 with (fail)
      have HRm := Lib.hid (show ∀ u, Wk g w3 u → RingAt u m f b1 o1 la ca b2 o2 lb cb S P from fun u hu => (H3.out.wk (WV.out.trans hu) (by omega) (by omega)))
      refine wp_region_makersR (Wk g) (RdF g (k + 20)) 14 rgMk (rgPhi m (w.heap.size + 1)) (rgSh m) (fun i => if i = 13 then .agg #[.int .i64 m, .int .i64 f, .slice (some ⟨b1, o1, none⟩) la ca, .slice (some ⟨b2, o2, none⟩) lb cb] else .int .i64 (0 : Nat)) probe (by kernel_rfl) (by kernel_rfl)
        (fun w => Wk.refl g w) (fun _ _ _ h h' => h.trans h') (fun _ _ h => h.less) (Wk.refl g _).drew ⟨k + 1 + 1, by omega, R4.out.next (Below.refl _ _).drew⟩ ?_ (fun i v x _ => rgSh_of i v x) ?_ ?_
      · intro i v u u' h hu
        unfold rgPhi at *
        split <;> rename_i e
        · rw [if_pos e] at h
          exact h.wk hu (by omega)
        · rw [if_neg e] at h
          exact h
      · intro i _
        unfold rgSh
        split
        · exact ⟨f, b1, o1, la, ca, b2, o2, lb, cb, rfl⟩
        · exact ⟨0, rfl, by omega⟩
      intro W1 hW1 vs hvs
      obtain ⟨p, ep, hp⟩ : ∃ x : Nat, vs 5 = .int .i64 x ∧ x + 1 < m := hvs 5 rfl
      obtain ⟨q, eq, hq⟩ : ∃ x : Nat, vs 11 = .int .i64 x ∧ x + 1 < m := hvs 11 rfl
      obtain ⟨f', b1', o1', la', ca', b2', o2', lb', cb', er⟩ : ∃ (f b1 o1 la ca b2 o2 lb cb : Nat), vs 13 = .agg #[.int .i64 m, .int .i64 f, .slice (some ⟨b1, o1, none⟩) la ca, .slice (some ⟨b2, o2, none⟩) lb cb] := hvs 13 rfl
      have cW : ∃ x, extCR (Wk g) W1 x := ⟨W1, extCR_of (Wk.refl g W1)⟩
      have KV5 := KV4.out.wk hW1 gne
      have x0 := KV5.allR gne 0
      have x1 := KV5.allR gne 1
      have x2 := KV5.allR gne 2
      have x3 := KV5.allR gne 3
      simp at x0 x1 x2 x3
      simp only [List.take_succ_cons, List.take_zero, List.drop_succ_cons, List.drop_zero]
      refine wpV_quietR cW 5 0 _ _ (by decide) (by decide) (fun o ho => plain_noEnter (List.all_eq_true.1 (by rfl) o ho)) ?_
      simp only [List.take_succ_cons, List.take_zero, List.drop_succ_cons, List.drop_zero]
      repeat (go_big_quiet_step (fail))
      refine wpQuiet_nil ?_
      refine wpV_make_R rfl rfl (fun x fu hx hI _ => ?_) ?_
      · obtain ⟨jj, hj1, hj2⟩ := hI
        unfold makesAtR
        go_simp
        refine ⟨rfl, (pick_any g jj _ x hj2 (by omega)).mono ?_⟩
        rintro _ x' ⟨z, rfl, z0, z1, hw', hr'⟩
        obtain ⟨zn, rfl⟩ := Int.eq_ofNat_of_zero_le z0
        exact ⟨_, rfl, hw', ⟨jj + 1, by omega, hr'⟩, ⟨zn, rfl, by omega⟩⟩
      rw [ep]
      go_simp
      refine wpV_quietR cW 5 _ _ _ (by decide) (by decide) (fun o ho => plain_noEnter (List.all_eq_true.1 (by rfl) o ho)) ?_
      simp only [List.take_succ_cons, List.take_zero, List.drop_succ_cons, List.drop_zero]
      repeat (go_big_quiet_step (fail))
      refine wpQuiet_nil ?_
      refine wpV_make_R rfl rfl (fun x fu hx hI _ => ?_) ?_
      · obtain ⟨jj, hj1, hj2⟩ := hI
        unfold makesAtR
        go_simp
        refine ⟨rfl, (pick_any g jj _ x hj2 (by omega)).mono ?_⟩
        rintro _ x' ⟨z, rfl, z0, z1, hw', hr'⟩
        obtain ⟨zn, rfl⟩ := Int.eq_ofNat_of_zero_le z0
        exact ⟨_, rfl, hw', ⟨jj + 1, by omega, hr'⟩, ⟨zn, rfl, by omega⟩⟩
      rw [eq]
      go_simp
      refine wpV_quietR cW 1 _ _ _ (by decide) (by decide) (fun o ho => plain_noEnter (List.all_eq_true.1 (by rfl) o ho)) ?_
      simp only [List.take_succ_cons, List.take_zero, List.drop_succ_cons, List.drop_zero]
      repeat (go_big_quiet_step (fail))
      refine wpQuiet_nil ?_
      refine wpV_make_R rfl rfl (fun x fu hx hI _ => ?_) ?_
      · obtain ⟨jj, hj1, hj2⟩ := hI
        obtain ⟨ux, rfl⟩ := hx
        have hwx := hW1.trans ux.rel
        unfold makesAtR
        go_simp
        refine ⟨rfl, (l1Renamed_any (1 + p) (1 + q) _ _ _ _ _ _ _ _ _ _ S P _ (HRm.out _ hwx) (by omega) (by omega)).mono ?_⟩
        rintro _ x' ⟨z, rfl, hF', hb'⟩
        exact ⟨_, rfl, Below.wk hb', ⟨jj, by omega, hj2.next hb'⟩, hF'.lower (by have := hwx.size; have := H4.out; omega)⟩
      rw [er]
      go_simp
      refine wpV_nilR ?_
      intro w5 hw5 hI5 hfacts
      have F5 := hfacts 13 (by omega) rfl
      rw [er] at F5
      have F5 := Lib.hid (show FitS m (w.heap.size + 1) w5 _ from F5)
      have K5 := Lib.hid (K4.out.wk hw5 (by omega))
      have X5 := Lib.hid (X4.out.trans hw5)
      have R5 := Lib.hid hI5.rdr
      have ltD : w.heap.size < w.heap.size + 1 := Nat.lt_succ_self _
      have leD : w.heap.size ≤ w.heap.size + 1 := Nat.le_succ _
      clear hfacts hvs x0 x1 x2 x3 KV5 hW1
      have d0 := K5.out.cell 0
      have d1 := K5.out.cell 1
      have d2 := K5.out.cell 2
      have d3 := K5.out.cell 3
      have f0 := K5.out.frozen 0
      have f1 := K5.out.frozen 1
      have f2 := K5.out.frozen 2
      have f3 := K5.out.frozen 3
      simp at d0 d1 d2 d3
      go_wp2_with (fail)
      refine bodyPost_ret (v := .agg #[.int .i64 m, .int .i64 f', .slice (some ⟨b1', o1', none⟩) la' ca', .slice (some ⟨b2', o2', none⟩) lb' cb']) ?_ rfl ⟨_, rfl, ⟨m, ?_⟩, ?_, ?_⟩
      · exact results_cell_row Try.results117 _ _ w.heap.size 25 _ (0, 0) _ rfl (store4_blk K5.out) Try.underlying25 rfl (by kernel_rfl)
      · exact (F5.out.store ltD).lower leD
      · exact X5.out.on (store4_below (Below.refl w.heap.size _) (Nat.le_refl _)) (Nat.le_refl _)
      · exact (R5.out.below (store4_below (Below.refl w.heap.size _) (Nat.le_refl _)) hg).more (by omega)
    · have t2 : ((y : Int) == 0) = false := by simp; omega
      have d0 := K4.out.cell 0
      have d1 := K4.out.cell 1
      have d2 := K4.out.cell 2
      have d3 := K4.out.cell 3
      have f0 := K4.out.frozen 0
      have f1 := K4.out.frozen 1
      have f2 := K4.out.frozen 2
      have f3 := K4.out.frozen 3
      have c0 := KV4.out.cell 0
      have c1 := KV4.out.cell 1
      have c2 := KV4.out.cell 2
      have c3 := KV4.out.cell 3
      simp at d0 d1 d2 d3 c0 c1 c2 c3
      go_wp2_with (fail)
      refine bodyPost_ret (v := .agg #[.int .i64 m, .int .i64 f, .slice (some ⟨b1, o1, none⟩) la ca, .slice (some ⟨b2, o2, none⟩) lb cb]) ?_ rfl ⟨_, rfl, ⟨m, ?_⟩, ?_, ?_⟩
      · exact results_cell_row Try.results117 _ _ w.heap.size 25 _ (0, 0) _ rfl (store4_blk K4.out) Try.underlying25 rfl (by kernel_rfl)
      · exact (F4.out.store wlt).lower wle
      · exact X4.out.on (store4_below (Below.refl w.heap.size _) (Nat.le_refl _)) (Nat.le_refl _)
      · exact (R4.out.below (store4_below (Below.refl w.heap.size _) (Nat.le_refl _)) hg).more (by omega)
  · have t1 : decide ((m : Int) > 2) = false := by simp; omega
    have d0 := K3.out.cell 0
    have d1 := K3.out.cell 1
    have d2 := K3.out.cell 2
    have d3 := K3.out.cell 3
    have f0 := K3.out.frozen 0
    have f1 := K3.out.frozen 1
    have f2 := K3.out.frozen 2
    have f3 := K3.out.frozen 3
    have c0 := KV.out.cell 0
    have c1 := KV.out.cell 1
    have c2 := KV.out.cell 2
    have c3 := KV.out.cell 3
    simp at d0 d1 d2 d3 c0 c1 c2 c3
    go_wp2_with (fail)
    refine bodyPost_ret (v := .agg #[.int .i64 m, .int .i64 f, .slice (some ⟨b1, o1, none⟩) la ca, .slice (some ⟨b2, o2, none⟩) lb cb]) ?_ rfl ⟨_, rfl, ⟨m, ?_⟩, ?_, ?_⟩
    · exact results_cell_row Try.results117 _ _ w.heap.size 25 _ (0, 0) _ rfl (store4_blk K3.out) Try.underlying25 rfl (by kernel_rfl)
    · exact (F3.out.store wlt).lower wle
    · exact X3.out.on (store4_below (Below.refl w.heap.size _) (Nat.le_refl _)) (Nat.le_refl _)
    · exact (R3.out.below (store4_below (Below.refl w.heap.size _) (Nat.le_refl _)) hg).more (by omega)

end Go.Proofs.Ytlcpbdbdiahmjaa



/- The drawing side: l1Bad, a ring that is sometimes not valid. -/
namespace Go.Proofs.Ytlcpbdbdiahmjaa
open Go.RowKit

/-- Some ring with readable tables that a call hands out. -/
def AnyR (D : Nat) (w : World) (v : Value) : Prop := ∃ (n o : Int) (X Y : List Int), RingOut D w v n o X Y ∧ 1 ≤ X.length ∧ X.length ≤ 256 ∧ Y.length = X.length ∧ n ≤ 9223372036854775807
theorem AnyR.next {D : Nat} {w w' : World} {v : Value} (h : AnyR D w v) (hb : Below w.heap.size w w') : AnyR D w' v := by
  obtain ⟨n, o, X, Y, h1, h2⟩ := h
  exact ⟨n, o, X, Y, h1.next hb, h2⟩
theorem AnyR.lower {D D' : Nat} {w : World} {v : Value} (h : AnyR D w v) (hD : D' ≤ D) : AnyR D' w v := by
  obtain ⟨n, o, X, Y, h1, h2⟩ := h
  exact ⟨n, o, X, Y, h1.lower hD, h2⟩
theorem AnyR.wk {D g : Nat} {w w' : World} {v : Value} (h : AnyR D w v) (hw : Wk g w w') (hg : g < D) : AnyR D w' v := by
  obtain ⟨n, o, X, Y, h1, h2⟩ := h
  exact ⟨n, o, X, Y, h1.wk hw hg, h2⟩
theorem AnyR.store {D b : Nat} {w : World} {v v0 v1 v2 v3 : Value} (h : AnyR D w v) (hb : b < D) : AnyR D (store4 w b v0 v1 v2 v3) v := by
  obtain ⟨n, o, X, Y, h1, h2⟩ := h
  exact ⟨n, o, X, Y, store4_out h1 hb, h2⟩
theorem FitS.any {m D : Nat} {w : World} {v : Value} (h : FitS m D w v) : AnyR D w v := by
  obtain ⟨e, X, Y, h1, h2⟩ := h
  obtain ⟨m', e', em, ee, hm, hm', he, hX, hY, _, _⟩ := fits_data h2
  have hp : 0 < m' * m' := Nat.mul_pos hm hm
  have hq : m' * m' ≤ 16 * 16 := Nat.mul_le_mul hm' hm'
  exact ⟨m, e, X, Y, h1, by omega, by omega, by omega, by omega⟩
theorem AnyR.le {D : Nat} {w : World} {n : Int} {o A B : Value} (h : AnyR D w (.agg #[.int .i64 n, o, A, B])) : n ≤ 9223372036854775807 := by
  obtain ⟨n', o', X, Y, ⟨A', la, ca, B', lb, cb, e, _⟩, _, _, _, h2⟩ := h
  simp at e
  omega
theorem get_le {L : List Int} {j : Nat} {B : Int} (h : ∀ x ∈ L, x ≤ B) (h0 : 0 ≤ B) : L[j]?.getD 0 ≤ B := by
  rcases Nat.lt_or_ge j L.length with hj | hj
  · rw [List.getElem?_eq_getElem hj]
    exact h _ (List.getElem_mem _)
  · rw [List.getElem?_eq_none hj]
    exact h0

theorem makesAtD_mono {P : Program} {o : Oper} {a : Act} {w : World} {F F' : Value → World → Prop} (h : makesAtD P o a w F) (hF : ∀ v w', F v w' → F' v w') : makesAtD P o a w F' := by
  unfold makesAtD at *
  generalize (execOp a.eval o).run P w = r at *
  cases r with
  | ok n w' =>
    cases n <;> simp only [makesUponD] at h ⊢
    case value u => exact ⟨h.1, hF _ _ h.2.1, h.2.2⟩
    case enter f args => exact ⟨h.1, h.2.mono fun e w'' ⟨u, h1, h2, h3, h4⟩ => ⟨u, h1, h2, hF _ _ h3, h4⟩⟩
  | halt x w' => simp only [makesUponD] at h
/-- A copy of a row of ints, behind an empty one. -/
theorem makes_append {o : Oper} {a : Act} (s x : Operand) (hop : o.op = .call { callee := .builtin .append, args := #[s, x], argTypes := #[23, 23] }) (b n c : Nat) (A : Option Addr) (X : List Int) (w : World)
    (hs : a.eval s = .slice (some ⟨b, 0, none⟩) 0 0) (hx : a.eval x = .slice A n c) (hX : Ints w w.heap.size A n X) (hn : 1 ≤ n) (hn' : n ≤ 1000000) :
    makesAtD Try.prog o a w fun v w' => ∃ g cap, v = .slice (some ⟨g, 0, none⟩) n cap ∧ w'.ownsRow w.heap.size 3 1 v n (intsV X) := by
  obtain ⟨i0, hi, hz0, hz1, hz2⟩ := info_parts int_info
  obtain ⟨ab, off, rfl, hab, hc⟩ := hX.2 (by omega)
  obtain ⟨v', w', hr, ho, hg⟩ := run_append_arg_grows (P := Try.prog) w 23 o.type 3 i0 (.int .i64 0) 1 8 Try.underlying23 hi hz0 hz1 hz2 rfl (by omega) ⟨b, 0, none⟩ 0 0 [] rfl (by simp) ⟨ab, off, none⟩ n c (intsV X)
    (by simp [intsV, hX.1]) (fun j u hu => by
      unfold intsV at hu
      rw [List.getElem?_map] at hu
      cases hj : X[j]? with
      | none => rw [hj] at hu; cases hu
      | some y =>
        rw [hj] at hu
        have := hc j y hj
        simp only [Option.map_some, Option.some.injEq] at hu
        rw [← hu]
        have e : (⟨ab, off, none⟩ : Addr).add j = ⟨ab, off + j, none⟩ := by simp [Addr.add]
        rw [e]
        exact this) (by omega) (by unfold maxLen; omega) (by omega)
  rw [Nat.zero_add] at ho
  rw [List.nil_append] at ho
  obtain ⟨g, cap, rfl, h1, h2⟩ := ho.form (by omega)
  unfold makesAtD execOp
  simp only [hop, resolve, invoke, builtin, Sem.run_bind, Sem.run_pure, Result.andThen_ok, List.map_toArray, List.map_cons, List.map_nil, hs, hx, hr, makesUponD]
  refine ⟨⟨hg.os, hg.tape, hg.output, hg.size, fun k hk => hg.block k hk (by simp)⟩, ⟨g, cap, rfl, ho⟩, fun bb hbb => ?_⟩
  simp [blocksOf] at hbb
  subst hbb
  exact ⟨h1, h2⟩
/-- An empty row. -/
theorem makes_empty {o : Oper} {a : Act} (hop : o.op = .buildSlice 23 0 #[]) (w : World) : makesAtD Try.prog o a w fun v _ => ∃ g, v = .slice (some ⟨g, 0, none⟩) 0 0 := by
  unfold makesAtD
  simp only [execOp, hop]
  go_simp
  refine ⟨(Below.refl _ _).alloc (Nat.le_refl _) _, ⟨_, rfl⟩, fun b hb => ?_⟩
  simp [blocksOf] at hb
  subst hb
  simp
theorem makes_boxD {o : Oper} {a : Act} (hop : o.op = .alloc 25) (w : World) :
    makesAtD Try.prog o a w fun v w' => ∃ g, v = .pointer (some ⟨g, 0, none⟩) ∧ w.heap.size ≤ g ∧ Blk w' g 25 #[.int .i64 0, .int .i64 0, .slice none 0 0, .slice none 0 0] := by
  unfold makesAtD
  simp only [execOp, hop]
  go_simp
  refine ⟨(Below.refl _ _).alloc (Nat.le_refl _) _, ⟨w.heap.size, rfl, Nat.le_refl _, Blk.new w _ _⟩, fun b hb => ?_⟩
  simp [blocksOf] at hb
  subst hb
  simp

/-- What a store of a drawn number into a table draws. -/
structure StPhi (g q : Nat) (L : List Int) (i : Nat) (v : Value) (w : World) : Prop where
  p : i = 6 → ∃ x : Nat, v = .int .i64 x ∧ x < q
  l : i = 8 → ∃ b, v = .slice (some ⟨b, 0, none⟩) L.length L.length ∧ b ≠ g ∧ Ints w w.heap.size (some ⟨b, 0, none⟩) L.length L
  y : i = 9 → ∃ y : Int, v = .int .i64 y
structure StSh (q : Nat) (L : List Int) (i : Nat) (v : Value) : Prop where
  p : i = 6 → ∃ x : Nat, v = .int .i64 x ∧ x < q
  l : i = 8 → ∃ b, v = .slice (some ⟨b, 0, none⟩) L.length L.length
  y : i = 9 → ∃ y : Int, v = .int .i64 y
theorem StPhi_stable {g q : Nat} {L : List Int} (i : Nat) (v : Value) (w w' : World) (h : StPhi g q L i v w) (hw : Wk g w w') : StPhi g q L i v w' := by
  refine ⟨h.p, fun hi => ?_, h.y⟩
  obtain ⟨b, h1, h2, h3⟩ := h.l hi
  exact ⟨b, h1, h2, (h3.wk hw fun a ha => by injection ha with ha; subst ha; exact h2).more hw.size⟩
theorem StSh_of {g q : Nat} {L : List Int} (i : Nat) (v : Value) (w : World) (h : StPhi g q L i v w) : StSh q L i v := by
  refine ⟨h.p, fun hi => ?_, h.y⟩
  obtain ⟨b, h1, _⟩ := h.l hi
  exact ⟨b, h1⟩
def stMk (i : Nat) : Bool := i == 6 || i == 8 || i == 9
def st0 (L : List Int) (i : Nat) : Value := if i = 8 then .slice (some ⟨0, 0, none⟩) L.length L.length else .int .i64 (0 : Nat)
theorem StSh_zero {q : Nat} (L : List Int) (i : Nat) (hq : 1 ≤ q) : StSh q L i (st0 L i) := by
  refine ⟨fun h => ?_, fun h => ?_, fun h => ?_⟩
  · subst h; exact ⟨0, rfl, by omega⟩
  · subst h; exact ⟨0, rfl⟩
  · subst h; exact ⟨_, rfl⟩
structure BadPhi (D la lb : Nat) (X Y : List Int) (i : Nat) (v : Value) (w : World) : Prop where
  e : i = 4 ∨ i = 8 → ∃ b, v = .slice (some ⟨b, 0, none⟩) 0 0
  p : i = 7 → ∃ b c, v = .slice (some ⟨b, 0, none⟩) la c ∧ w.ownsRow D 3 1 v la (intsV X)
  q : i = 11 → ∃ b c, v = .slice (some ⟨b, 0, none⟩) lb c ∧ w.ownsRow D 3 1 v lb (intsV Y)
  x : i = 13 → ∃ b, v = .pointer (some ⟨b, 0, none⟩) ∧ D ≤ b ∧ Blk w b 25 #[.int .i64 0, .int .i64 0, .slice none 0 0, .slice none 0 0]
structure BadSh (la lb : Nat) (i : Nat) (v : Value) : Prop where
  e : i = 4 ∨ i = 8 → ∃ b, v = .slice (some ⟨b, 0, none⟩) 0 0
  p : i = 7 → ∃ b c, v = .slice (some ⟨b, 0, none⟩) la c
  q : i = 11 → ∃ b c, v = .slice (some ⟨b, 0, none⟩) lb c
  x : i = 13 → ∃ b, v = .pointer (some ⟨b, 0, none⟩)
theorem BadPhi_stable {D la lb : Nat} {X Y : List Int} (i : Nat) (v : Value) (w w' : World) (h : BadPhi D la lb X Y i v w) (hb : Below w.heap.size w w') : BadPhi D la lb X Y i v w' := by
  refine ⟨h.e, fun hi => ?_, fun hi => ?_, fun hi => ?_⟩
  · obtain ⟨b, c, h1, h2⟩ := h.p hi
    exact ⟨b, c, h1, own_next h2 hb⟩
  · obtain ⟨b, c, h1, h2⟩ := h.q hi
    exact ⟨b, c, h1, own_next h2 hb⟩
  · obtain ⟨b, h1, h2, h3⟩ := h.x hi
    exact ⟨b, h1, h2, h3.next hb⟩
theorem BadSh_of {D la lb : Nat} {X Y : List Int} (i : Nat) (v : Value) (w : World) (h : BadPhi D la lb X Y i v w) : BadSh la lb i v := by
  refine ⟨h.e, fun hi => ?_, fun hi => ?_, fun hi => ?_⟩
  · obtain ⟨b, c, h1, _⟩ := h.p hi
    exact ⟨b, c, h1⟩
  · obtain ⟨b, c, h1, _⟩ := h.q hi
    exact ⟨b, c, h1⟩
  · obtain ⟨b, h1, _⟩ := h.x hi
    exact ⟨b, h1⟩
def badMk (i : Nat) : Bool := i == 4 || i == 7 || i == 8 || i == 11 || i == 13
def bad0 (la lb : Nat) (i : Nat) : Value := if i = 4 ∨ i = 8 then .slice (some ⟨0, 0, none⟩) 0 0 else if i = 7 then .slice (some ⟨0, 0, none⟩) la 0 else if i = 11 then .slice (some ⟨0, 0, none⟩) lb 0 else .pointer (some ⟨0, 0, none⟩)
theorem BadSh_zero (la lb i : Nat) : BadSh la lb i (bad0 la lb i) := by
  refine ⟨fun h => ?_, fun h => ?_, fun h => ?_, fun h => ?_⟩
  · exact ⟨0, if_pos h⟩
  · subst h; exact ⟨0, 0, rfl⟩
  · subst h; exact ⟨0, 0, rfl⟩
  · subst h; exact ⟨0, rfl⟩

end Go.Proofs.Ytlcpbdbdiahmjaa



/- The drawing side: l1Bad, a ring that is sometimes not valid: the walk. -/
namespace Go.Proofs.Ytlcpbdbdiahmjaa
open Go.RowKit

set_option maxHeartbeats 8000000 in
set_option maxRecDepth 100000 in
theorem l1Bad_any (g k : Nat) (n o : Int) (A B : Option Addr) (q ca cb : Nat) (X Y : List Int) (w : World) (hr : Rdr w g k) (hk : k ≤ 1125899906842000) (hX : Ints w w.heap.size A q X) (hY : Ints w w.heap.size B q Y) (hq : 1 ≤ q) (hq' : q ≤ 256) (hmx : n ≤ 9223372036854775807) :
    Calls Try.prog 116 #[.pointer (some ⟨g, 0, none⟩), .agg #[.int .i64 n, .int .i64 o, .slice A q ca, .slice B q cb]] w fun e w' => ∃ v, e = .returned v ∧ AnyR w.heap.size w' v ∧ Wk g w w' ∧ Rdr w' g (k + 20) := by
  have hg := hr.lt
  obtain ⟨i0, hi, hz0, hz1, hz2⟩ := info_parts int_info
  obtain ⟨V, hV⟩ : ∃ V, (w.alloc (.cells #[.int .i64 n, .int .i64 o, .slice A q ca, .slice B q cb] 25)).alloc (.cells #[.int .i64 0, .int .i64 0, .slice none 0 0, .slice none 0 0] 25) = V := ⟨_, rfl⟩
  have kP : Blk V w.heap.size 25 #[.int .i64 n, .int .i64 o, .slice A q ca, .slice B q cb] := by subst hV; exact (Blk.new w _ _).alloc _
  have kZ : Blk V (w.heap.size + 1) 25 #[.int .i64 0, .int .i64 0, .slice none 0 0, .slice none 0 0] := by
    subst hV
    have := Blk.new (w.alloc (.cells #[.int .i64 n, .int .i64 o, .slice A q ca, .slice B q cb] 25)) 25 #[.int .i64 0, .int .i64 0, .slice none 0 0, .slice none 0 0]
    rw [World.size_alloc] at this
    exact this
  have bV : Below w.heap.size w V := by subst hV; exact ((Below.refl _ _).alloc (Nat.le_refl _) _).alloc (by simp) _
  obtain ⟨D, hD⟩ : ∃ D, D = w.heap.size + 1 + 1 := ⟨_, rfl⟩
  have hVs : V.heap.size = D := by subst hV; rw [hD]; simp
  have ltP : w.heap.size < D := by omega
  have ltZ : w.heap.size + 1 < D := by omega
  clear hD
  have KP := Lib.hid kP
  have KZ := Lib.hid kZ
  have BV := Lib.hid bV
  have IX := Lib.hid (hX.next bV)
  have IY := Lib.hid (hY.next bV)
  have RV := Lib.hid (hr.next bV)
  clear kP kZ bV
  go_enter Try.func116, Try.ntmps116
  go_upto_region 1 with (fail)
  clear hV
  refine wp_region_makersD 14 badMk (BadPhi D q q X Y) (BadSh q q) (bad0 q q) probe (by kernel_rfl) (by kernel_rfl) BadPhi_stable (fun i v x _ => BadSh_of i v x) (fun i _ => BadSh_zero q q i) ?_
  intro W1 hW1 vs hvs
  obtain ⟨b4, e4⟩ := (hvs 4 rfl).e (.inl rfl)
  obtain ⟨b7, c7, e7⟩ := (hvs 7 rfl).p rfl
  obtain ⟨b8, e8⟩ := (hvs 8 rfl).e (.inr rfl)
  obtain ⟨b11, c11, e11⟩ := (hvs 11 rfl).q rfl
  obtain ⟨bx, ex⟩ := (hvs 13 rfl).x rfl
  have cW : ∃ x, extC W1 x := ⟨W1, extC_of (Below.refl _ _)⟩
  have big : ∀ x, extC W1 x → D ≤ x.heap.size := fun x ⟨u, hu⟩ => by rw [hu, ← hVs]; exact Nat.le_trans hW1.size (ext_size W1 u)
  have kx : ∀ x, extC W1 x → Below V.heap.size V x := fun x ⟨u, hu⟩ => by rw [hu]; exact hW1.trans ((ext_below W1 u).mono hW1.size)
  have x0 := (KP.out.next hW1).cell 0
  have x1 := (KP.out.next hW1).cell 1
  have x2 := (KP.out.next hW1).cell 2
  have x3 := (KP.out.next hW1).cell 3
  simp at x0 x1 x2 x3
  simp only [List.take_succ_cons, List.take_zero, List.drop_succ_cons, List.drop_zero]
  refine wpV_quietD cW 4 0 _ _ (by decide) (by decide) ?_
  simp only [List.take_succ_cons, List.take_zero, List.drop_succ_cons, List.drop_zero]
  repeat (go_big_quiet_step (fail))
  refine wpQuiet_nil ?_
  refine wpV_make_D rfl rfl (fun x hx _ => makesAtD_mono (makes_empty rfl x) fun v x' h => ⟨fun _ => h, fun e => absurd e (by decide), fun e => absurd e (by decide), fun e => absurd e (by decide)⟩) ?_
  rw [e4]
  go_simp
  refine wpV_quietD cW 2 _ _ _ (by decide) (by decide) ?_
  simp only [List.take_succ_cons, List.take_zero, List.drop_succ_cons, List.drop_zero]
  repeat (go_big_quiet_step (fail))
  refine wpQuiet_nil ?_
  refine wpV_make_D rfl rfl (fun x hx _ => makesAtD_mono (makes_append _ _ rfl b4 q ca A X x rfl rfl (IX.out.next (kx x hx)) hq (by omega)) fun v x' h => ⟨fun e => absurd e (by decide), fun _ => by
      obtain ⟨b, c, h1, h2⟩ := h
      exact ⟨b, c, h1, own_base h2 (big x hx)⟩, fun e => absurd e (by decide), fun e => absurd e (by decide)⟩) ?_
  rw [e7]
  go_simp
  refine wpV_make_D rfl rfl (fun x hx _ => makesAtD_mono (makes_empty rfl x) fun v x' h => ⟨fun _ => h, fun e => absurd e (by decide), fun e => absurd e (by decide), fun e => absurd e (by decide)⟩) ?_
  rw [e8]
  go_simp
  refine wpV_quietD cW 2 _ _ _ (by decide) (by decide) ?_
  simp only [List.take_succ_cons, List.take_zero, List.drop_succ_cons, List.drop_zero]
  repeat (go_big_quiet_step (fail))
  refine wpQuiet_nil ?_
  refine wpV_make_D rfl rfl (fun x hx _ => makesAtD_mono (makes_append _ _ rfl b8 q cb B Y x rfl rfl (IY.out.next (kx x hx)) hq (by omega)) fun v x' h => ⟨fun e => absurd e (by decide), fun e => absurd e (by decide), fun _ => by
      obtain ⟨b, c, h1, h2⟩ := h
      exact ⟨b, c, h1, own_base h2 (big x hx)⟩, fun e => absurd e (by decide)⟩) ?_
  rw [e11]
  go_simp
  refine wpV_quietD cW 1 _ _ _ (by decide) (by decide) ?_
  simp only [List.take_succ_cons, List.take_zero, List.drop_succ_cons, List.drop_zero]
  repeat (go_big_quiet_step (fail))
  refine wpQuiet_nil ?_
  refine wpV_make_D rfl rfl (fun x hx _ => makesAtD_mono (makes_boxD rfl x) fun v x' h => ⟨fun e => absurd e (by decide), fun e => absurd e (by decide), fun e => absurd e (by decide), fun _ => by
      obtain ⟨b, h1, h2, h3⟩ := h
      exact ⟨b, h1, Nat.le_trans (big x hx) h2, h3⟩⟩) ?_
  rw [ex]
  go_simp
  refine wpV_nilD ?_
  intro w2 hb2 hfacts hapart
  have n711 : b7 ≠ b11 := fun e => hapart 7 11 (by omega) (by omega) (by omega) rfl rfl b7 (by rw [e7]; simp [blocksOf]) (by rw [e11, e]; simp [blocksOf])
  have n7x : b7 ≠ bx := fun e => hapart 7 13 (by omega) (by omega) (by omega) rfl rfl b7 (by rw [e7]; simp [blocksOf]) (by rw [ex, e]; simp [blocksOf])
  have n11x : b11 ≠ bx := fun e => hapart 11 13 (by omega) (by omega) (by omega) rfl rfl b11 (by rw [e11]; simp [blocksOf]) (by rw [ex, e]; simp [blocksOf])
  have o7 : w2.ownsRow D 3 1 (.slice (some ⟨b7, 0, none⟩) q c7) q (intsV X) := by
    obtain ⟨b, c, h1, h2⟩ := (hfacts 7 (by omega) rfl).p rfl
    rw [e7] at h2
    exact h2
  have o11 : w2.ownsRow D 3 1 (.slice (some ⟨b11, 0, none⟩) q c11) q (intsV Y) := by
    obtain ⟨b, c, h1, h2⟩ := (hfacts 11 (by omega) rfl).q rfl
    rw [e11] at h2
    exact h2
  obtain ⟨dx, rx⟩ : D ≤ bx ∧ Blk w2 bx 25 #[.int .i64 0, .int .i64 0, .slice none 0 0, .slice none 0 0] := by
    obtain ⟨b, h1, h2, h3⟩ := (hfacts 13 (by omega) rfl).x rfl
    rw [ex] at h1
    simp at h1
    subst h1
    exact ⟨h2, h3⟩
  clear hfacts hapart hvs x0 x1 x2 x3
  have c0 := rx.cell 0
  have c1 := rx.cell 1
  have c2 := rx.cell 2
  have c3 := rx.cell 3
  have f0 := rx.frozen 0
  have f1 := rx.frozen 1
  have f2 := rx.frozen 2
  have f3 := rx.frozen 3
  simp at c0 c1 c2 c3
  go_upto_region 2 with (fail)
  obtain ⟨U, hU⟩ : ∃ U, store4 w2 bx (.int .i64 n) (.int .i64 o) (.slice (some ⟨b7, 0, none⟩) q c7) (.slice (some ⟨b11, 0, none⟩) q c11) = U := ⟨_, rfl⟩
  have hU' := hU
  unfold store4 at hU'
  have KBU := Lib.hid (show Blk U bx 25 #[.int .i64 n, .int .i64 o, .slice (some ⟨b7, 0, none⟩) q c7, .slice (some ⟨b11, 0, none⟩) q c11] by rw [← hU]; exact store4_blk rx)
  have O7U := Lib.hid (show U.ownsRow D 3 1 (.slice (some ⟨b7, 0, none⟩) q c7) q (intsV X) by rw [← hU]; exact store4_own o7 (by simpa [Value.ownBlock] using n7x))
  have O11U := Lib.hid (show U.ownsRow D 3 1 (.slice (some ⟨b11, 0, none⟩) q c11) q (intsV Y) by rw [← hU]; exact store4_own o11 (by simpa [Value.ownBlock] using n11x))
  have bU : Below D V U := by rw [← hU]; exact store4_below (hVs ▸ hb2) dx
  have KZU := Lib.hid (KZ.out.below bU ltZ)
  have XU := Lib.hid ((Below.wk (g := g) BV.out).on bU (Nat.le_of_lt ltP))
  have RU := Lib.hid (RV.out.below bU (Nat.lt_trans hg ltP))
  have g7 : b7 ≠ g := by
    have := (o7.lt b7 rfl).1
    omega
  have g11 : b11 ≠ g := by
    have := (o11.lt b11 rfl).1
    omega
  have gx : bx ≠ g := by omega
  have gz : w.heap.size + 1 ≠ g := by omega
  rw [hU']
  clear hU hU' bU rx o7 o11 c0 c1 c2 c3 f0 f1 f2 f3 hb2 ex e4 e7 e8 e11 hW1 cW big kx
  go_wp2_with (fail)
  refine (pick_any _ k _ _ RU.out (by omega)).mono ?_
  rintro e w3 ⟨x, rfl, h0, h1, hw3, hr3⟩
  obtain ⟨x, rfl⟩ := Int.eq_ofNat_of_zero_le h0
  have KB := Lib.hid (KBU.out.wk hw3 gx)
  have KZ := Lib.hid (KZU.out.wk hw3 gz)
  have O7 := Lib.hid (O7U.out.kept hw3.grown (.inr (by simpa [Value.ownBlock] using g7)))
  have O11 := Lib.hid (O11U.out.kept hw3.grown (.inr (by simpa [Value.ownBlock] using g11)))
  have XX := Lib.hid (XU.out.trans hw3)
  have RR := Lib.hid hr3
  clear hw3 hr3 h0 h1 KBU KZU O7U O11U XU RU
  rcases (show x = 0 ∨ x = 1 ∨ x = 2 ∨ x = 3 ∨ 4 ≤ x by omega) with rfl | rfl | rfl | rfl | h4
  · have t0 : (((0 : Nat) : Int) == 0) = true := rfl
    go_wp2_with (fail)
    have ltg := RR.out.lt
    have bA : Below w3.heap.size w3 (w3.alloc (.cells #[.int .i64 0, .int .i64 17, .int .i64 (-1), .int .i64 2, .int .i64 9223372036854775807] 3)) := (Below.refl _ _).alloc (Nat.le_refl _) _
    refine (num_any g (k + 1) _ 5 _ _ [0, 17, -1, 2, 9223372036854775807] _ (RR.out.next bA) (by omega) (ints_lit (w := w3) (l := [0, 17, -1, 2, 9223372036854775807]) (cs := #[.int .i64 0, .int .i64 17, .int .i64 (-1), .int .i64 2, .int .i64 9223372036854775807]) (T := 3) rfl) (fun a ha => by injection ha with ha; subst ha; show w3.heap.size ≠ g; omega) (by omega) (by omega)).mono ?_
    rintro e w4 ⟨j, hj, rfl, hw4, hr4⟩
    obtain ⟨N', hN⟩ : ∃ N', ([0, 17, -1, 2, 9223372036854775807] : List Int)[j]?.getD 0 = N' := ⟨_, rfl⟩
    rw [hN]
    have hmx : N' ≤ 9223372036854775807 := by rw [← hN]; exact get_le (by decide) (by decide)
    clear hN
    have KB4 := Lib.hid ((KB.out.next bA).wk hw4 gx)
    have KZ4 := Lib.hid ((KZ.out.next bA).wk hw4 gz)
    have O74 := Lib.hid ((own_next O7.out bA).kept hw4.grown (.inr (by simpa [Value.ownBlock] using g7)))
    have O114 := Lib.hid ((own_next O11.out bA).kept hw4.grown (.inr (by simpa [Value.ownBlock] using g11)))
    have XX4 := Lib.hid ((XX.out.trans (Below.wk bA)).trans hw4)
    have RR4 := Lib.hid hr4
    clear hw4 hr4 bA
    have c0 := KB4.out.cell 0
    have f0 := KB4.out.frozen 0
    simp at c0
    go_upto_region 11 with (fail)
    obtain ⟨w5, hw5⟩ : ∃ w5, w4.setCell ⟨bx, 0, none⟩ (.int .i64 N') = w5 := ⟨_, rfl⟩
    have KB5 := Lib.hid (show Blk w5 bx 25 #[.int .i64 N', .int .i64 o, .slice (some ⟨b7, 0, none⟩) q c7, .slice (some ⟨b11, 0, none⟩) q c11] by rw [← hw5]; simpa using KB4.out.set_ 0 (.int .i64 N'))
    have KZ5 := Lib.hid (show Blk w5 (w.heap.size + 1) 25 _ by rw [← hw5]; exact KZ4.out.far (by show w.heap.size + 1 ≠ bx; omega) _)
    have O75 := Lib.hid (show w5.ownsRow D 3 1 (.slice (some ⟨b7, 0, none⟩) q c7) q (intsV X) by rw [← hw5]; exact ownsRow_setCell_other O74.out (by simpa [Value.ownBlock] using n7x) _)
    have O115 := Lib.hid (show w5.ownsRow D 3 1 (.slice (some ⟨b11, 0, none⟩) q c11) q (intsV Y) by rw [← hw5]; exact ownsRow_setCell_other O114.out (by simpa [Value.ownBlock] using n11x) _)
    have XX5 := Lib.hid (show Wk g w w5 by rw [← hw5]; exact XX4.out.on ((Below.refl w.heap.size _).setCell (by show w.heap.size ≤ bx; omega) _) (Nat.le_refl _))
    have RR5 := Lib.hid (show Rdr w5 g (k + 1 + 1) by rw [← hw5]; exact RR4.out.below ((Below.refl w.heap.size _).setCell (by show w.heap.size ≤ bx; omega) _) hg)
    rw [hw5]
    clear hw5 c0 f0
    have d0 := KZ5.out.cell 0
    have d1 := KZ5.out.cell 1
    have d2 := KZ5.out.cell 2
    have d3 := KZ5.out.cell 3
    have f0 := KZ5.out.frozen 0
    have f1 := KZ5.out.frozen 1
    have f2 := KZ5.out.frozen 2
    have f3 := KZ5.out.frozen 3
    have c0 := KB5.out.cell 0
    have c1 := KB5.out.cell 1
    have c2 := KB5.out.cell 2
    have c3 := KB5.out.cell 3
    simp at d0 d1 d2 d3 c0 c1 c2 c3
    go_wp2_with (fail)
    refine bodyPost_ret (v := .agg #[.int .i64 N', .int .i64 o, .slice (some ⟨b7, 0, none⟩) q c7, .slice (some ⟨b11, 0, none⟩) q c11]) ?_ rfl ⟨_, rfl, ?_, ?_, ?_⟩
    · exact results_cell_row Try.results116 _ _ (w.heap.size + 1) 25 _ (0, 0) _ rfl (store4_blk KZ5.out) Try.underlying25 rfl (by kernel_rfl)
    · exact AnyR.lower (AnyR.store ⟨N', o, X, Y, NewRing.out ⟨_, _, rfl, O75.out, O115.out, fun g0 h1 h2 => n711 (by simp [Value.ownBlock] at h1 h2; omega)⟩ (by omega) hX.1 hY.1, by rw [hX.1]; omega, by rw [hX.1]; omega, by rw [hX.1, hY.1], hmx⟩ ltZ) (Nat.le_of_lt ltP)
    · exact XX5.out.on (store4_below (Below.refl w.heap.size _) (Nat.le_succ _)) (Nat.le_refl _)
    · exact (RR5.out.below (store4_below (Below.refl w.heap.size _) (Nat.le_succ _)) hg).more (by omega)
  · have t0 : (((1 : Nat) : Int) == 0) = false := rfl
    have t1 : (((1 : Nat) : Int) == 1) = true := rfl
    go_upto_region 6 with (fail)
    refine wp_region_makersR (Wk g) (RdF g (k + 20)) 10 stMk (StPhi g q [0, 1, 16, -1]) (StSh q [0, 1, 16, -1]) (st0 [0, 1, 16, -1]) probe (by kernel_rfl) (by kernel_rfl)
      (fun w => Wk.refl g w) (fun _ _ _ h h' => h.trans h') (fun _ _ h => h.less) (Wk.refl g _).drew ⟨k + 1, by omega, RR.out.next (Below.refl _ _).drew⟩ StPhi_stable (fun i v x _ => StSh_of i v x) (fun i _ => StSh_zero _ i hq) ?_
    intro W2 hW2 vs2 hvs2
    obtain ⟨p, ep, hp⟩ := (hvs2 6 rfl).p rfl
    obtain ⟨bl, el⟩ : ∃ b, vs2 8 = .slice (some ⟨b, 0, none⟩) 4 4 := (hvs2 8 rfl).l rfl
    obtain ⟨y, ey⟩ := (hvs2 9 rfl).y rfl
    have cW : ∃ x, extCR (Wk g) W2 x := ⟨W2, extCR_of (Wk.refl g W2)⟩
    have KB4 := KB.out.wk hW2 gx
    have x2 := KB4.allR gx 2
    have x3 := KB4.allR gx 3
    simp at x2 x3
    simp only [List.take_succ_cons, List.take_zero, List.drop_succ_cons, List.drop_zero]
    refine wpV_quietR cW 6 0 _ _ (by decide) (by decide) (fun o ho => plain_noEnter (List.all_eq_true.1 (by rfl) o ho)) ?_
    simp only [List.take_succ_cons, List.take_zero, List.drop_succ_cons, List.drop_zero]
    repeat (go_big_quiet_step (fail))
    refine wpQuiet_nil ?_
    refine wpV_make_R rfl rfl (fun x fu hx hI _ => ?_) ?_
    · obtain ⟨jj, hj1, hj2⟩ := hI
      unfold makesAtR
      go_simp
      refine ⟨rfl, (pick_any g jj _ x hj2 (by omega)).mono ?_⟩
      rintro _ x' ⟨z, rfl, z0, z1, hw', hr'⟩
      obtain ⟨zn, rfl⟩ := Int.eq_ofNat_of_zero_le z0
      exact ⟨_, rfl, hw', ⟨jj + 1, by omega, hr'⟩, ⟨fun _ => ⟨zn, rfl, by omega⟩, fun e => absurd e (by decide), fun e => absurd e (by decide)⟩⟩
    rw [ep]
    go_simp
    refine wpV_quietR cW 1 _ _ _ (by decide) (by decide) (fun o ho => plain_noEnter (List.all_eq_true.1 (by rfl) o ho)) ?_
    simp only [List.take_succ_cons, List.take_zero, List.drop_succ_cons, List.drop_zero]
    repeat (go_big_quiet_step (fail))
    refine wpQuiet_nil ?_
    refine wpV_make_R rfl rfl (fun x fu hx hI _ => ?_) ?_
    · have hltx := hI.rdr.lt
      unfold makesAtR
      go_simp
      have bA : Below x.heap.size x (x.alloc (.cells #[.int .i64 0, .int .i64 1, .int .i64 16, .int .i64 (-1)] 3)) := (Below.refl _ _).alloc (Nat.le_refl _) _
      exact ⟨Below.wk bA, hI.less.below bA, ⟨fun e => absurd e (by decide), fun _ => ⟨x.heap.size, rfl, by omega, ints_lit (w := x) (l := [0, 1, 16, -1]) (cs := #[.int .i64 0, .int .i64 1, .int .i64 16, .int .i64 (-1)]) (T := 3) rfl⟩, fun e => absurd e (by decide)⟩⟩
    rw [el]
    go_simp
    refine wpV_make_R rfl rfl (fun x fu hx hI hdep => ?_) ?_
    · obtain ⟨jj, hj1, hj2⟩ := hI
      obtain ⟨b', e', hb1, hb2⟩ := (hdep ⟨8, .data⟩ (by simp) rfl rfl).l rfl
      rw [el] at e'
      simp at e'
      subst e'
      unfold makesAtR
      go_simp
      refine ⟨rfl, (num_any g jj _ 4 _ _ [0, 1, 16, -1] x hj2 (by omega) hb2 (fun a ha => by injection ha with ha; subst ha; exact hb1) (by omega) (by omega)).mono ?_⟩
      rintro _ x' ⟨j, hj, rfl, hw', hr'⟩
      exact ⟨_, rfl, hw', ⟨jj + 1, by omega, hr'⟩, ⟨fun e => absurd e (by decide), fun e => absurd e (by decide), fun _ => ⟨_, rfl⟩⟩⟩
    rw [ey]
    go_simp
    refine wpV_nilR ?_
    intro w4 hw4 hI4 _
    have KB4 := Lib.hid (KB.out.wk hw4 gx)
    have KZ4 := Lib.hid (KZ.out.wk hw4 gz)
    have O74 := Lib.hid (O7.out.kept hw4.grown (.inr (by simpa [Value.ownBlock] using g7)))
    have O114 := Lib.hid (O11.out.kept hw4.grown (.inr (by simpa [Value.ownBlock] using g11)))
    have XX4 := Lib.hid (XX.out.trans hw4)
    have RR4 := Lib.hid hI4.rdr
    clear hw4 hI4 hvs2 x2 x3 cW hW2 ep el ey
    have hce := O114.out.cellAt p (by omega)
    have hpl : p < Y.length := by rw [hY.1]; exact hp
    rw [intsV_get hpl] at hce
    have hfr := O114.out.frozenAt p
    go_upto_region 11 with (fail)
    obtain ⟨w5, hw5⟩ : ∃ w5, w4.setCell ⟨b11, p, none⟩ (.int .i64 y) = w5 := ⟨_, rfl⟩
    have KB5 := Lib.hid (show Blk w5 bx 25 #[.int .i64 n, .int .i64 o, .slice (some ⟨b7, 0, none⟩) q c7, .slice (some ⟨b11, 0, none⟩) q c11] by rw [← hw5]; exact KB4.out.far (Ne.symm n11x) _)
    have KZ5 := Lib.hid (show Blk w5 (w.heap.size + 1) 25 _ by rw [← hw5]; exact KZ4.out.far (by have := (O114.out.lt b11 rfl).1; show w.heap.size + 1 ≠ b11; omega) _)
    have O115 := Lib.hid (show w5.ownsRow D 3 1 (.slice (some ⟨b11, 0, none⟩) q c11) q (intsV (Y.set p y)) by rw [← hw5, ← intsV_set]; exact (O114.out.stored p _).1)
    have O75 := Lib.hid (show w5.ownsRow D 3 1 (.slice (some ⟨b7, 0, none⟩) q c7) q (intsV X) by rw [← hw5]; exact ownsRow_setCell_other O74.out (by simp [Value.ownBlock]; omega) _)
    have XX5 := Lib.hid (show Wk g w w5 by rw [← hw5]; exact XX4.out.on ((Below.refl w.heap.size _).setCell (by have := (O114.out.lt b11 rfl).1; show w.heap.size ≤ b11; omega) _) (Nat.le_refl _))
    have RR5 := Lib.hid (show Rdr w5 g (k + 20) by rw [← hw5]; exact RR4.out.below ((Below.refl w.heap.size _).setCell (by have := (O114.out.lt b11 rfl).1; show w.heap.size ≤ b11; omega) _) hg)
    rw [hw5]
    clear hw5 hce hfr
    have lN : (Y.set p y).length = q := by rw [List.length_set, hY.1]
    have d0 := KZ5.out.cell 0
    have d1 := KZ5.out.cell 1
    have d2 := KZ5.out.cell 2
    have d3 := KZ5.out.cell 3
    have f0 := KZ5.out.frozen 0
    have f1 := KZ5.out.frozen 1
    have f2 := KZ5.out.frozen 2
    have f3 := KZ5.out.frozen 3
    have c0 := KB5.out.cell 0
    have c1 := KB5.out.cell 1
    have c2 := KB5.out.cell 2
    have c3 := KB5.out.cell 3
    simp at d0 d1 d2 d3 c0 c1 c2 c3
    go_wp2_with (fail)
    refine bodyPost_ret (v := .agg #[.int .i64 n, .int .i64 o, .slice (some ⟨b7, 0, none⟩) q c7, .slice (some ⟨b11, 0, none⟩) q c11]) ?_ rfl ⟨_, rfl, ?_, ?_, ?_⟩
    · exact results_cell_row Try.results116 _ _ (w.heap.size + 1) 25 _ (0, 0) _ rfl (store4_blk KZ5.out) Try.underlying25 rfl (by kernel_rfl)
    · exact AnyR.lower (AnyR.store ⟨n, o, X, (Y.set p y), NewRing.out ⟨_, _, rfl, O75.out, O115.out, fun g0 h1 h2 => n711 (by simp [Value.ownBlock] at h1 h2; omega)⟩ (by omega) hX.1 lN, by rw [hX.1]; omega, by rw [hX.1]; omega, by rw [hX.1, lN], hmx⟩ ltZ) (Nat.le_of_lt ltP)
    · exact XX5.out.on (store4_below (Below.refl w.heap.size _) (Nat.le_succ _)) (Nat.le_refl _)
    · exact (RR5.out.below (store4_below (Below.refl w.heap.size _) (Nat.le_succ _)) hg).more (by omega)
  · have t0 : (((2 : Nat) : Int) == 0) = false := rfl
    have t1 : (((2 : Nat) : Int) == 1) = false := rfl
    have t2 : (((2 : Nat) : Int) == 2) = true := rfl
    go_upto_region 8 with (fail)
    refine wp_region_makersR (Wk g) (RdF g (k + 20)) 10 stMk (StPhi g q [0, 1, -1]) (StSh q [0, 1, -1]) (st0 [0, 1, -1]) probe (by kernel_rfl) (by kernel_rfl)
      (fun w => Wk.refl g w) (fun _ _ _ h h' => h.trans h') (fun _ _ h => h.less) (Wk.refl g _).drew ⟨k + 1, by omega, RR.out.next (Below.refl _ _).drew⟩ StPhi_stable (fun i v x _ => StSh_of i v x) (fun i _ => StSh_zero _ i hq) ?_
    intro W2 hW2 vs2 hvs2
    obtain ⟨p, ep, hp⟩ := (hvs2 6 rfl).p rfl
    obtain ⟨bl, el⟩ : ∃ b, vs2 8 = .slice (some ⟨b, 0, none⟩) 3 3 := (hvs2 8 rfl).l rfl
    obtain ⟨y, ey⟩ := (hvs2 9 rfl).y rfl
    have cW : ∃ x, extCR (Wk g) W2 x := ⟨W2, extCR_of (Wk.refl g W2)⟩
    have KB4 := KB.out.wk hW2 gx
    have x2 := KB4.allR gx 2
    have x3 := KB4.allR gx 3
    simp at x2 x3
    simp only [List.take_succ_cons, List.take_zero, List.drop_succ_cons, List.drop_zero]
    refine wpV_quietR cW 6 0 _ _ (by decide) (by decide) (fun o ho => plain_noEnter (List.all_eq_true.1 (by rfl) o ho)) ?_
    simp only [List.take_succ_cons, List.take_zero, List.drop_succ_cons, List.drop_zero]
    repeat (go_big_quiet_step (fail))
    refine wpQuiet_nil ?_
    refine wpV_make_R rfl rfl (fun x fu hx hI _ => ?_) ?_
    · obtain ⟨jj, hj1, hj2⟩ := hI
      unfold makesAtR
      go_simp
      refine ⟨rfl, (pick_any g jj _ x hj2 (by omega)).mono ?_⟩
      rintro _ x' ⟨z, rfl, z0, z1, hw', hr'⟩
      obtain ⟨zn, rfl⟩ := Int.eq_ofNat_of_zero_le z0
      exact ⟨_, rfl, hw', ⟨jj + 1, by omega, hr'⟩, ⟨fun _ => ⟨zn, rfl, by omega⟩, fun e => absurd e (by decide), fun e => absurd e (by decide)⟩⟩
    rw [ep]
    go_simp
    refine wpV_quietR cW 1 _ _ _ (by decide) (by decide) (fun o ho => plain_noEnter (List.all_eq_true.1 (by rfl) o ho)) ?_
    simp only [List.take_succ_cons, List.take_zero, List.drop_succ_cons, List.drop_zero]
    repeat (go_big_quiet_step (fail))
    refine wpQuiet_nil ?_
    refine wpV_make_R rfl rfl (fun x fu hx hI _ => ?_) ?_
    · have hltx := hI.rdr.lt
      unfold makesAtR
      go_simp
      have bA : Below x.heap.size x (x.alloc (.cells #[.int .i64 0, .int .i64 1, .int .i64 (-1)] 3)) := (Below.refl _ _).alloc (Nat.le_refl _) _
      exact ⟨Below.wk bA, hI.less.below bA, ⟨fun e => absurd e (by decide), fun _ => ⟨x.heap.size, rfl, by omega, ints_lit (w := x) (l := [0, 1, -1]) (cs := #[.int .i64 0, .int .i64 1, .int .i64 (-1)]) (T := 3) rfl⟩, fun e => absurd e (by decide)⟩⟩
    rw [el]
    go_simp
    refine wpV_make_R rfl rfl (fun x fu hx hI hdep => ?_) ?_
    · obtain ⟨jj, hj1, hj2⟩ := hI
      obtain ⟨b', e', hb1, hb2⟩ := (hdep ⟨8, .data⟩ (by simp) rfl rfl).l rfl
      rw [el] at e'
      simp at e'
      subst e'
      unfold makesAtR
      go_simp
      refine ⟨rfl, (num_any g jj _ 3 _ _ [0, 1, -1] x hj2 (by omega) hb2 (fun a ha => by injection ha with ha; subst ha; exact hb1) (by omega) (by omega)).mono ?_⟩
      rintro _ x' ⟨j, hj, rfl, hw', hr'⟩
      exact ⟨_, rfl, hw', ⟨jj + 1, by omega, hr'⟩, ⟨fun e => absurd e (by decide), fun e => absurd e (by decide), fun _ => ⟨_, rfl⟩⟩⟩
    rw [ey]
    go_simp
    refine wpV_nilR ?_
    intro w4 hw4 hI4 _
    have KB4 := Lib.hid (KB.out.wk hw4 gx)
    have KZ4 := Lib.hid (KZ.out.wk hw4 gz)
    have O74 := Lib.hid (O7.out.kept hw4.grown (.inr (by simpa [Value.ownBlock] using g7)))
    have O114 := Lib.hid (O11.out.kept hw4.grown (.inr (by simpa [Value.ownBlock] using g11)))
    have XX4 := Lib.hid (XX.out.trans hw4)
    have RR4 := Lib.hid hI4.rdr
    clear hw4 hI4 hvs2 x2 x3 cW hW2 ep el ey
    have hce := O74.out.cellAt p (by omega)
    have hpl : p < X.length := by rw [hX.1]; exact hp
    rw [intsV_get hpl] at hce
    have hfr := O74.out.frozenAt p
    go_upto_region 11 with (fail)
    obtain ⟨w5, hw5⟩ : ∃ w5, w4.setCell ⟨b7, p, none⟩ (.int .i64 y) = w5 := ⟨_, rfl⟩
    have KB5 := Lib.hid (show Blk w5 bx 25 #[.int .i64 n, .int .i64 o, .slice (some ⟨b7, 0, none⟩) q c7, .slice (some ⟨b11, 0, none⟩) q c11] by rw [← hw5]; exact KB4.out.far (Ne.symm n7x) _)
    have KZ5 := Lib.hid (show Blk w5 (w.heap.size + 1) 25 _ by rw [← hw5]; exact KZ4.out.far (by have := (O74.out.lt b7 rfl).1; show w.heap.size + 1 ≠ b7; omega) _)
    have O75 := Lib.hid (show w5.ownsRow D 3 1 (.slice (some ⟨b7, 0, none⟩) q c7) q (intsV (X.set p y)) by rw [← hw5, ← intsV_set]; exact (O74.out.stored p _).1)
    have O115 := Lib.hid (show w5.ownsRow D 3 1 (.slice (some ⟨b11, 0, none⟩) q c11) q (intsV Y) by rw [← hw5]; exact ownsRow_setCell_other O114.out (by simp [Value.ownBlock]; omega) _)
    have XX5 := Lib.hid (show Wk g w w5 by rw [← hw5]; exact XX4.out.on ((Below.refl w.heap.size _).setCell (by have := (O74.out.lt b7 rfl).1; show w.heap.size ≤ b7; omega) _) (Nat.le_refl _))
    have RR5 := Lib.hid (show Rdr w5 g (k + 20) by rw [← hw5]; exact RR4.out.below ((Below.refl w.heap.size _).setCell (by have := (O74.out.lt b7 rfl).1; show w.heap.size ≤ b7; omega) _) hg)
    rw [hw5]
    clear hw5 hce hfr
    have lN : (X.set p y).length = q := by rw [List.length_set, hX.1]
    have d0 := KZ5.out.cell 0
    have d1 := KZ5.out.cell 1
    have d2 := KZ5.out.cell 2
    have d3 := KZ5.out.cell 3
    have f0 := KZ5.out.frozen 0
    have f1 := KZ5.out.frozen 1
    have f2 := KZ5.out.frozen 2
    have f3 := KZ5.out.frozen 3
    have c0 := KB5.out.cell 0
    have c1 := KB5.out.cell 1
    have c2 := KB5.out.cell 2
    have c3 := KB5.out.cell 3
    simp at d0 d1 d2 d3 c0 c1 c2 c3
    go_wp2_with (fail)
    refine bodyPost_ret (v := .agg #[.int .i64 n, .int .i64 o, .slice (some ⟨b7, 0, none⟩) q c7, .slice (some ⟨b11, 0, none⟩) q c11]) ?_ rfl ⟨_, rfl, ?_, ?_, ?_⟩
    · exact results_cell_row Try.results116 _ _ (w.heap.size + 1) 25 _ (0, 0) _ rfl (store4_blk KZ5.out) Try.underlying25 rfl (by kernel_rfl)
    · exact AnyR.lower (AnyR.store ⟨n, o, (X.set p y), Y, NewRing.out ⟨_, _, rfl, O75.out, O115.out, fun g0 h1 h2 => n711 (by simp [Value.ownBlock] at h1 h2; omega)⟩ (by omega) lN hY.1, by rw [lN]; omega, by rw [lN]; omega, by rw [lN, hY.1], hmx⟩ ltZ) (Nat.le_of_lt ltP)
    · exact XX5.out.on (store4_below (Below.refl w.heap.size _) (Nat.le_succ _)) (Nat.le_refl _)
    · exact (RR5.out.below (store4_below (Below.refl w.heap.size _) (Nat.le_succ _)) hg).more (by omega)
  · have t0 : (((3 : Nat) : Int) == 0) = false := rfl
    have t1 : (((3 : Nat) : Int) == 1) = false := rfl
    have t2 : (((3 : Nat) : Int) == 2) = false := rfl
    have t3 : (((3 : Nat) : Int) == 3) = true := rfl
    go_wp2_with (fail)
    have ltg := RR.out.lt
    have bA : Below w3.heap.size w3 (w3.alloc (.cells #[.int .i64 0, .int .i64 2, .int .i64 (-1)] 3)) := (Below.refl _ _).alloc (Nat.le_refl _) _
    refine (num_any g (k + 1) _ 3 _ _ [0, 2, -1] _ (RR.out.next bA) (by omega) (ints_lit (w := w3) (l := [0, 2, -1]) (cs := #[.int .i64 0, .int .i64 2, .int .i64 (-1)]) (T := 3) rfl) (fun a ha => by injection ha with ha; subst ha; show w3.heap.size ≠ g; omega) (by omega) (by omega)).mono ?_
    rintro e w4 ⟨j, hj, rfl, hw4, hr4⟩
    obtain ⟨N', hN⟩ : ∃ N', ([0, 2, -1] : List Int)[j]?.getD 0 = N' := ⟨_, rfl⟩
    rw [hN]
    skip
    clear hN
    have KB4 := Lib.hid ((KB.out.next bA).wk hw4 gx)
    have KZ4 := Lib.hid ((KZ.out.next bA).wk hw4 gz)
    have O74 := Lib.hid ((own_next O7.out bA).kept hw4.grown (.inr (by simpa [Value.ownBlock] using g7)))
    have O114 := Lib.hid ((own_next O11.out bA).kept hw4.grown (.inr (by simpa [Value.ownBlock] using g11)))
    have XX4 := Lib.hid ((XX.out.trans (Below.wk bA)).trans hw4)
    have RR4 := Lib.hid hr4
    clear hw4 hr4 bA
    have c1 := KB4.out.cell 1
    have f1 := KB4.out.frozen 1
    simp at c1
    go_upto_region 11 with (fail)
    obtain ⟨w5, hw5⟩ : ∃ w5, w4.setCell ⟨bx, 1, none⟩ (.int .i64 N') = w5 := ⟨_, rfl⟩
    have KB5 := Lib.hid (show Blk w5 bx 25 #[.int .i64 n, .int .i64 N', .slice (some ⟨b7, 0, none⟩) q c7, .slice (some ⟨b11, 0, none⟩) q c11] by rw [← hw5]; simpa using KB4.out.set_ 1 (.int .i64 N'))
    have KZ5 := Lib.hid (show Blk w5 (w.heap.size + 1) 25 _ by rw [← hw5]; exact KZ4.out.far (by show w.heap.size + 1 ≠ bx; omega) _)
    have O75 := Lib.hid (show w5.ownsRow D 3 1 (.slice (some ⟨b7, 0, none⟩) q c7) q (intsV X) by rw [← hw5]; exact ownsRow_setCell_other O74.out (by simpa [Value.ownBlock] using n7x) _)
    have O115 := Lib.hid (show w5.ownsRow D 3 1 (.slice (some ⟨b11, 0, none⟩) q c11) q (intsV Y) by rw [← hw5]; exact ownsRow_setCell_other O114.out (by simpa [Value.ownBlock] using n11x) _)
    have XX5 := Lib.hid (show Wk g w w5 by rw [← hw5]; exact XX4.out.on ((Below.refl w.heap.size _).setCell (by show w.heap.size ≤ bx; omega) _) (Nat.le_refl _))
    have RR5 := Lib.hid (show Rdr w5 g (k + 1 + 1) by rw [← hw5]; exact RR4.out.below ((Below.refl w.heap.size _).setCell (by show w.heap.size ≤ bx; omega) _) hg)
    rw [hw5]
    clear hw5 c1 f1
    have d0 := KZ5.out.cell 0
    have d1 := KZ5.out.cell 1
    have d2 := KZ5.out.cell 2
    have d3 := KZ5.out.cell 3
    have f0 := KZ5.out.frozen 0
    have f1 := KZ5.out.frozen 1
    have f2 := KZ5.out.frozen 2
    have f3 := KZ5.out.frozen 3
    have c0 := KB5.out.cell 0
    have c1 := KB5.out.cell 1
    have c2 := KB5.out.cell 2
    have c3 := KB5.out.cell 3
    simp at d0 d1 d2 d3 c0 c1 c2 c3
    go_wp2_with (fail)
    refine bodyPost_ret (v := .agg #[.int .i64 n, .int .i64 N', .slice (some ⟨b7, 0, none⟩) q c7, .slice (some ⟨b11, 0, none⟩) q c11]) ?_ rfl ⟨_, rfl, ?_, ?_, ?_⟩
    · exact results_cell_row Try.results116 _ _ (w.heap.size + 1) 25 _ (0, 0) _ rfl (store4_blk KZ5.out) Try.underlying25 rfl (by kernel_rfl)
    · exact AnyR.lower (AnyR.store ⟨n, N', X, Y, NewRing.out ⟨_, _, rfl, O75.out, O115.out, fun g0 h1 h2 => n711 (by simp [Value.ownBlock] at h1 h2; omega)⟩ (by omega) hX.1 hY.1, by rw [hX.1]; omega, by rw [hX.1]; omega, by rw [hX.1, hY.1], hmx⟩ ltZ) (Nat.le_of_lt ltP)
    · exact XX5.out.on (store4_below (Below.refl w.heap.size _) (Nat.le_succ _)) (Nat.le_refl _)
    · exact (RR5.out.below (store4_below (Below.refl w.heap.size _) (Nat.le_succ _)) hg).more (by omega)
  · have t0 : ((x : Int) == 0) = false := by simp; omega
    have t1 : ((x : Int) == 1) = false := by simp; omega
    have t2 : ((x : Int) == 2) = false := by simp; omega
    have t3 : ((x : Int) == 3) = false := by simp; omega
    have d0 := KZ.out.cell 0
    have d1 := KZ.out.cell 1
    have d2 := KZ.out.cell 2
    have d3 := KZ.out.cell 3
    have f0 := KZ.out.frozen 0
    have f1 := KZ.out.frozen 1
    have f2 := KZ.out.frozen 2
    have f3 := KZ.out.frozen 3
    have c0 := KB.out.cell 0
    have c1 := KB.out.cell 1
    have c2 := KB.out.cell 2
    have c3 := KB.out.cell 3
    simp at d0 d1 d2 d3 c0 c1 c2 c3
    go_wp2_with (fail)
    refine bodyPost_ret (v := .agg #[.int .i64 n, .int .i64 o, .slice (some ⟨b7, 0, none⟩) q c7, .slice (some ⟨b11, 0, none⟩) q c11]) ?_ rfl ⟨_, rfl, ?_, ?_, ?_⟩
    · exact results_cell_row Try.results116 _ _ (w.heap.size + 1) 25 _ (0, 0) _ rfl (store4_blk KZ.out) Try.underlying25 rfl (by kernel_rfl)
    · exact AnyR.lower (AnyR.store ⟨n, o, X, Y, NewRing.out ⟨_, _, rfl, O7.out, O11.out, fun g0 h1 h2 => n711 (by simp [Value.ownBlock] at h1 h2; omega)⟩ (by omega) hX.1 hY.1, by rw [hX.1]; omega, by rw [hX.1]; omega, by rw [hX.1, hY.1], hmx⟩ ltZ) (Nat.le_of_lt ltP)
    · exact XX.out.on (store4_below (Below.refl w.heap.size _) (Nat.le_succ _)) (Nat.le_refl _)
    · exact (RR.out.below (store4_below (Below.refl w.heap.size _) (Nat.le_succ _)) hg).more (by omega)

end Go.Proofs.Ytlcpbdbdiahmjaa



/- The drawing side: l1Some, l1Element, l1Count. -/
namespace Go.Proofs.Ytlcpbdbdiahmjaa
open Go.RowKit

theorem AnyR.data {D : Nat} {w : World} {v : Value} (h : AnyR D w v) : ∃ (n o : Int) (A B : Option Addr) (q ca cb : Nat) (X Y : List Int), v = .agg #[.int .i64 n, .int .i64 o, .slice A q ca, .slice B q cb] ∧ Own w D A q X ∧ Own w D B q Y ∧ 1 ≤ q ∧ q ≤ 256 ∧ q ≤ ca ∧ q ≤ cb := by
  obtain ⟨n, o, X, Y, ⟨A, la, ca, B, lb, cb, e, h1, h2, _, _, _, _, h3, h4⟩, h5, h6, h7, _⟩ := h
  have e1 := h1.1
  have e2 := h2.1
  have e3 : lb = la := by omega
  subst e3
  exact ⟨n, o, A, B, lb, ca, cb, X, Y, e, h1, h2, by omega, by omega, h3, h4⟩

set_option maxHeartbeats 4000000 in
set_option maxRecDepth 100000 in
theorem l1Some_any (g k : Nat) (w : World) (hr : Rdr w g k) (hk : k ≤ 1125899906841000) :
    Calls Try.prog 99 #[.pointer (some ⟨g, 0, none⟩)] w fun e w' => ∃ v, e = .returned v ∧ AnyR w.heap.size w' v ∧ Wk g w w' ∧ Rdr w' g (k + 40) := by
  have hg := hr.lt
  obtain ⟨W, hW⟩ : ∃ W, w.alloc (.cells #[.int .i64 0, .int .i64 0, .slice none 0 0, .slice none 0 0] 25) = W := ⟨_, rfl⟩
  have hw : w.heap.size < W.heap.size := by subst hW; simp
  have bW : Below w.heap.size w W := by subst hW; exact (Below.refl _ _).alloc (Nat.le_refl _) _
  have K0 := Lib.hid (show Blk W w.heap.size 25 #[.int .i64 0, .int .i64 0, .slice none 0 0, .slice none 0 0] by subst hW; exact Blk.new w _ _)
  have X0 := Lib.hid (Below.wk (g := g) bW)
  have R0 := Lib.hid (hr.next bW)
  clear bW
  go_enter Try.func99, Try.ntmps99
  go_upto_region 1 with (fail)
  clear hW
  go_wp2_with (fail)
  refine (l1Ring_any g k _ R0.out (by omega)).mono ?_
  rintro e w1 ⟨v, rfl, ⟨m, hF⟩, hw1, hr1⟩
  obtain ⟨n, o, A, B, q, ca, cb, X, Y, rfl, hX, hY, h1, h2, h3, h4⟩ := hF.any.data
  have hmx := AnyR.le hF.any
  have IX := Lib.hid hX.ints
  have IY := Lib.hid hY.ints
  have K1 := Lib.hid (K0.out.wk hw1 (by omega))
  have X1 := Lib.hid (X0.out.trans hw1)
  have R1 := Lib.hid hr1
  have S1 := Lib.hid hw1.size
  clear hw1 hr1 hF hX hY
  go_wp2_with (fail)
  refine (l1Bad_any g (k + 20) n o A B q ca cb X Y w1 R1.out (by omega) IX.out IY.out h1 h2 hmx).mono ?_
  rintro e w2 ⟨v2, rfl, hA, hw2, hr2⟩
  have F2 := hA
  obtain ⟨n2, o2, A2, B2, q2, ca2, cb2, X2, Y2, rfl, _, _, _⟩ := hA.data
  have F2 := Lib.hid F2
  have K2 := Lib.hid (K1.out.wk hw2 (by omega))
  have XX2 := Lib.hid (X1.out.trans hw2)
  have R2 := Lib.hid hr2
  have ltw : w.heap.size < w1.heap.size := Nat.lt_of_lt_of_le hw S1.out
  clear hw2 hr2 hA
  have d0 := K2.out.cell 0
  have d1 := K2.out.cell 1
  have d2 := K2.out.cell 2
  have d3 := K2.out.cell 3
  have f0 := K2.out.frozen 0
  have f1 := K2.out.frozen 1
  have f2 := K2.out.frozen 2
  have f3 := K2.out.frozen 3
  simp at d0 d1 d2 d3
  go_wp2_with (fail)
  refine bodyPost_ret (v := .agg #[.int .i64 n2, .int .i64 o2, .slice A2 q2 ca2, .slice B2 q2 cb2]) ?_ rfl ⟨_, rfl, ?_, ?_, ?_⟩
  · exact results_cell_row Try.results99 _ _ w.heap.size 25 _ (0, 0) _ rfl (store4_blk K2.out) Try.underlying25 rfl (by kernel_rfl)
  · exact (F2.out.store ltw).lower (Nat.le_of_lt ltw)
  · exact XX2.out.on (store4_below (Below.refl w.heap.size _) (Nat.le_refl _)) (Nat.le_refl _)
  · exact (R2.out.below (store4_below (Below.refl w.heap.size _) (Nat.le_refl _)) hg).more (by omega)

/-- A number that fits a word. -/
def Wrd (x : Int) : Prop := -9223372036854775808 ≤ x ∧ x ≤ 9223372036854775807
end Go.Proofs.Ytlcpbdbdiahmjaa



/- The drawing side: draws of a ring, of a ring and numbers. -/
namespace Go.Proofs.Ytlcpbdbdiahmjaa
open Go.RowKit
set_option maxRecDepth 100000

theorem Byts.grow {w w' : World} {A : Option Addr} {n : Nat} (h : Byts w w.heap.size A n) (hb : Below w.heap.size w w') : Byts w' w'.heap.size A n := fun j hj => by
  obtain ⟨b, off, x, h1, h2, h3, h4⟩ := h j hj
  exact ⟨b, off, x, h1, Nat.lt_of_lt_of_le h2 hb.size, h3, (hb.cell (p := ⟨b, off + j, none⟩) h2).trans h4⟩

end Go.Proofs.Ytlcpbdbdiahmjaa



/- The drawing side: a ring and numbers. -/
namespace Go.Proofs.Ytlcpbdbdiahmjaa
open Go.RowKit
set_option maxRecDepth 100000

theorem results_cell_two {P : Program} {fn : Func} {p u s : Tmp} {ty : TypeId} (h : fn.results = #[.cell p ty, .tmp u, .tmp s]) (tmps : Array Value) (w : World) (g : Nat) (t : TypeId) (cs : Array Value) (d : TypeDesc) (b c : Value)
    (hp : tmps.getD p undef = .pointer (some ⟨g, 0, none⟩)) (hb : tmps.getD u undef = b) (hc : tmps.getD s undef = c) (hg : Blk w g t cs)
    (hu : P.underlying ty = some d) (hd : (match d with | .struct _ | .array _ _ => true | _ => false) = true) (hi : (P.info? ty).map (·.size) = some cs.size) :
    (results fn tmps).run P w = .ok (.tuple #[.agg cs, b, c]) w := by
  have e : (results fn tmps).run P w = ((asAddr (tmps.getD p undef)).run P w).andThen fun a w₁ => ((loadVar ty a).run P w₁).andThen fun v w₂ => .ok (.tuple #[v, tmps.getD u undef, tmps.getD s undef]) w₂ := by
    simp only [results, h]
    simp [Sem.run_bind, Result.andThen]
  rw [e, hp, hb, hc]
  simp [asAddr, run_loadVar_row w g t ty cs (0, 0) d hg hu hd hi]

/-- All old memory but a reader is as it was; some blocks may have got what they are to hold. -/
structure WkT (g : Nat) (T : Nat → Option Obj) (w w' : World) : Prop where
  os : w'.os = w.os
  tape : w'.tape = w.tape
  output : w'.output = w.output
  size : w.heap.size ≤ w'.heap.size
  block : ∀ k, k < w.heap.size → k ≠ g → w'.heap[k]? = w.heap[k]? ∨ (∃ ob, T k = some ob ∧ w'.heap[k]? = some ob)
section
variable {g : Nat} {T : Nat → Option Obj}
theorem WkT.refl (w : World) : WkT g T w w := ⟨rfl, rfl, rfl, Nat.le_refl _, fun _ _ _ => .inl rfl⟩
theorem WkT.trans {a b c : World} (h : WkT g T a b) (k : WkT g T b c) : WkT g T a c :=
  ⟨k.os.trans h.os, k.tape.trans h.tape, k.output.trans h.output, Nat.le_trans h.size k.size, fun i hi hg => by
    rcases k.block i (Nat.lt_of_lt_of_le hi h.size) hg with h1 | h1
    · rcases h.block i hi hg with h2 | ⟨ob, h2, h3⟩
      · exact .inl (h1.trans h2)
      · exact .inr ⟨ob, h2, h1.trans h3⟩
    · exact .inr h1⟩
theorem WkT.of {w w' : World} (h : Wk g w w') : WkT g T w w' := ⟨h.os, h.tape, h.output, h.size, fun k hk hg => .inl (h.block k hk hg)⟩
theorem WkT.blk {w w' : World} {b : Nat} {t : TypeId} {cs : Array Value} (h : Blk w b t cs) (hw : WkT g T w w') (hb : b ≠ g) (hT : T b = none) : Blk w' b t cs := by
  rcases hw.block b h.lt hb with h1 | ⟨ob, h1, _⟩
  · exact h1.trans h
  · rw [hT] at h1; cases h1
/-- A block that is to hold something: it holds that, or what it held. -/
theorem WkT.goal {w w' : World} {b : Nat} {t : TypeId} {cs ds : Array Value} (h : Blk w b t cs) (hw : WkT g T w w') (hb : b ≠ g) (hT : T b = some (.cells ds t (0, 0))) : Blk w' b t cs ∨ Blk w' b t ds := by
  rcases hw.block b h.lt hb with h1 | ⟨ob, h1, h2⟩
  · exact .inl (h1.trans h)
  · rw [hT] at h1
    injection h1 with h1
    subst h1
    exact .inr h2
theorem WkT.done {w w' : World} {b : Nat} {t : TypeId} {ds : Array Value} (h : Blk w b t ds) (hw : WkT g T w w') (hb : b ≠ g) (hT : T b = some (.cells ds t (0, 0))) : Blk w' b t ds := by
  rcases WkT.goal h hw hb hT with h1 | h1 <;> exact h1
theorem Wk.onT {w u u' : World} (h : Wk g w u) (hw : WkT g T u u') (hT : ∀ k, k < w.heap.size → T k = none) : Wk g w u' :=
  ⟨hw.os.trans h.os, hw.tape.trans h.tape, hw.output.trans h.output, Nat.le_trans h.size hw.size, fun k hk hg => by
    rcases hw.block k (Nat.lt_of_lt_of_le hk h.size) hg with h1 | ⟨ob, h1, _⟩
    · exact h1.trans (h.block k hk hg)
    · rw [hT k hk] at h1; cases h1⟩
theorem WkT.cell {w w' : World} (hw : WkT g T w w') {p : Addr} (hp : p.block < w.heap.size) (hg : p.block ≠ g) (hT : T p.block = none) : w'.cell? p = w.cell? p := by
  rcases hw.block p.block hp hg with h1 | ⟨ob, h1, _⟩
  · exact World.cell?_of_block (w := w) h1
  · rw [hT] at h1; cases h1
theorem WkT.frozen {w w' : World} (hw : WkT g T w w') {p : Addr} (hp : p.block < w.heap.size) (hg : p.block ≠ g) (hT : T p.block = none) : w'.frozen? p = w.frozen? p := by
  rcases hw.block p.block hp hg with h1 | ⟨ob, h1, _⟩
  · exact World.frozen?_of_block (w := w) h1
  · rw [hT] at h1; cases h1
theorem Own.wkT {w w' : World} {D n : Nat} {A : Option Addr} {xs : List Int} (h : Own w D A n xs) (hw : WkT g T w w') (hg : g < D) (hT : ∀ k, D ≤ k → T k = none) : Own w' D A n xs :=
  ⟨h.1, fun hn => by
    obtain ⟨b, off, e, h1, h2, h3⟩ := h.2 hn
    refine ⟨b, off, e, h1, Nat.lt_of_lt_of_le h2 hw.size, fun k hk => ?_⟩
    exact ⟨(hw.cell (p := ⟨b, off + k, none⟩) h2 (by show b ≠ g; omega) (hT _ h1)).trans (h3 k hk).1, (hw.frozen (p := ⟨b, off + k, none⟩) h2 (by show b ≠ g; omega) (hT _ h1)).trans (h3 k hk).2⟩⟩
theorem AnyR.wkT {D : Nat} {w w' : World} {v : Value} (h : AnyR D w v) (hw : WkT g T w w') (hg : g < D) (hT : ∀ k, D ≤ k → T k = none) : AnyR D w' v := by
  obtain ⟨n, o, X, Y, ⟨A, la, ca, B, lb, cb, e, h1, h2, h3⟩, h4⟩ := h
  exact ⟨n, o, X, Y, ⟨A, la, ca, B, lb, cb, e, h1.wkT hw hg hT, h2.wkT hw hg hT, h3⟩, h4⟩
instance (W : World) : Nonempty (ExtR (WkT g T) W) := ⟨⟨W, WkT.refl W⟩⟩
theorem Blk.allT {b : Nat} {W : World} {t : TypeId} {cs : Array Value} (h : Blk W b t cs) (hb : b ≠ g) (hT : T b = none) (i : Nat) : ∀ u : ExtR (WkT g T) W, (extR (WkT g T) W u).cell? ⟨b, i, none⟩ = cs[i]? := fun u => (WkT.blk h u.rel hb hT).cell i
end
/-- A cell of a byte is none of a ring's box. -/
def NoU8 (cs : Array Value) : Prop := ∀ (i x : Nat), cs[i]? ≠ some (.int .u8 x)
theorem noByte4 (n o : Int) (A B : Option Addr) (la ca lb cb : Nat) : NoU8 #[.int .i64 n, .int .i64 o, .slice A la ca, .slice B lb cb] := by
  intro i x h
  rcases i with _ | _ | _ | _ | i <;> simp at h
/-- A store into a box of a ring leaves a reader alone. -/
theorem Rdr.store {w : World} {g k b : Nat} {t : TypeId} {cs : Array Value} {v0 v1 v2 v3 : Value} (h : Rdr w g k) (hb : Blk w b t cs) (hn : NoU8 cs) (hg : b ≠ g) : Rdr (store4 w b v0 v1 v2 v3) g k := by
  obtain ⟨A, n, c, p, h1, h2, h3, h4⟩ := h
  refine ⟨A, n, c, p, (((h1.far (Ne.symm hg) _).far (Ne.symm hg) _).far (Ne.symm hg) _).far (Ne.symm hg) _, h2, h3, fun j hj => ?_⟩
  obtain ⟨b', off, x, e, h5, h6, h7⟩ := h4 j hj
  refine ⟨b', off, x, e, h5, h6, ?_⟩
  have hne : b' ≠ b := fun e => by
    subst e
    rw [hb.cell] at h7
    exact hn _ _ h7
  have hne' : ∀ i, (⟨b, i, none⟩ : Addr) ≠ ⟨b', off + j, none⟩ := fun i e => by injection e with e; exact hne e.symm
  unfold store4
  exact (World.cell?_setCell_other _ _ _ _ (hne' _)).trans ((World.cell?_setCell_other _ _ _ _ (hne' _)).trans ((World.cell?_setCell_other _ _ _ _ (hne' _)).trans ((World.cell?_setCell_other _ _ _ _ (hne' _)).trans h7)))
theorem WkT.store {g : Nat} {T : Nat → Option Obj} {w : World} {b : Nat} {t : TypeId} {a0 a1 a2 a3 v0 v1 v2 v3 : Value} (hb : Blk w b t #[a0, a1, a2, a3]) (hT : T b = some (.cells #[v0, v1, v2, v3] t (0, 0))) : WkT g T w (store4 w b v0 v1 v2 v3) := by
  refine ⟨rfl, rfl, rfl, by simp [store4], fun k hk hg => ?_⟩
  by_cases e : k = b
  · subst e
    exact .inr ⟨_, hT, store4_blk hb⟩
  · refine .inl ?_
    unfold store4
    exact ((((Below.heap_setCell _ ⟨b, 3, none⟩ _ k e).trans (Below.heap_setCell _ ⟨b, 2, none⟩ _ k e)).trans (Below.heap_setCell _ ⟨b, 1, none⟩ _ k e)).trans (Below.heap_setCell _ ⟨b, 0, none⟩ _ k e))
theorem run_store4 {o : Oper} {a : Act} {w : World} {b la ca lb cb : Nat} {n i : Int} {A B : Option Addr} {a0 a1 a2 a3 : Value} (p x : Operand) (hop : o.op = .store 25 p x) (hp : a.eval p = .pointer (some ⟨b, 0, none⟩)) (hx : a.eval x = .agg #[.int .i64 n, .int .i64 i, .slice A la ca, .slice B lb cb])
    (hb : Blk w b 25 #[a0, a1, a2, a3]) : (execOp a.eval o).run Try.prog w = .ok .skip (store4 w b (.int .i64 n) (.int .i64 i) (.slice A la ca) (.slice B lb cb)) := by
  have c0 := hb.cell 0
  have c1 := hb.cell 1
  have c2 := hb.cell 2
  have c3 := hb.cell 3
  have f0 := hb.frozen 0
  have f1 := hb.frozen 1
  have f2 := hb.frozen 2
  have f3 := hb.frozen 3
  simp at c0 c1 c2 c3
  generalize a.eval = ev at hp hx ⊢
  simp only [execOp, hop, hp, hx]
  simp [go_sem, c0, c1, c2, c3, f0, f1, f2, f3, store4]
/-- Reading on, up to a hundred reads a call. -/
def RdG (g K : Nat) (f : Nat) (w : World) : Prop := ∃ j, j + f * 100 ≤ K ∧ Rdr w g j
theorem RdG.less {g K f : Nat} {w : World} (h : RdG g K (f + 1) w) : RdG g K f w := by
  obtain ⟨j, h1, h2⟩ := h
  exact ⟨j, by omega, h2⟩
theorem RdG.rdr {g K f : Nat} {w : World} (h : RdG g K f w) : Rdr w g K := by
  obtain ⟨j, h1, h2⟩ := h
  exact h2.more (by omega)
/-- The block of the result is to hold a ring. -/
def goal1 (b : Nat) (cs : Array Value) (k : Nat) : Option Obj := if k = b then some (.cells cs 25 (0, 0)) else none
theorem goal1_at {b : Nat} {cs : Array Value} : goal1 b cs b = some (.cells cs 25 (0, 0)) := if_pos rfl
theorem goal1_none {b k : Nat} {cs : Array Value} (h : k ≠ b) : goal1 b cs k = none := if_neg h

end Go.Proofs.Ytlcpbdbdiahmjaa



/- The drawing side: draws of a ring and numbers. -/
namespace Go.Proofs.Ytlcpbdbdiahmjaa
open Go.RowKit
set_option maxRecDepth 100000

end Go.Proofs.Ytlcpbdbdiahmjaa

