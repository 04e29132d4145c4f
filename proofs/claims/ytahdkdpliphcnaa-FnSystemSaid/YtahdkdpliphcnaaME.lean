/- Texts of this seat in one: V6 V7 V8 V9 W0 W1. -/
import Derived.Test.YtahdkdpliphcnaaMD
import Derived.Test.YtahdkdpliphcnaaMC
import Derived.Test.YtahdkdpliphcnaaMM

/- The drawing side: l1Swapped; rings that fit; l1Known. -/
namespace Go.Proofs.Ytahdkdpliphcnaa
open Go.RowKit

/-- A ring of some size that a call hands out, whose tables fit. -/
def FitS (m D : Nat) (w : World) (v : Value) : Prop := ∃ (e : Nat) (X Y : List Int), RingOut D w v m e X Y ∧ fitsB m e X Y = true
def FitOut (D : Nat) (w : World) (v : Value) : Prop := ∃ m, FitS m D w v
theorem FitS.next {m D : Nat} {w w' : World} {v : Value} (h : FitS m D w v) (hb : Below w.heap.size w w') : FitS m D w' v := by
  obtain ⟨e, X, Y, h1, h2⟩ := h
  exact ⟨e, X, Y, h1.next hb, h2⟩
theorem FitS.lower {m D D' : Nat} {w : World} {v : Value} (h : FitS m D w v) (hD : D' ≤ D) : FitS m D' w v := by
  obtain ⟨e, X, Y, h1, h2⟩ := h
  exact ⟨e, X, Y, h1.lower hD, h2⟩
theorem FitS.store {m D b : Nat} {w : World} {v v0 v1 v2 v3 : Value} (h : FitS m D w v) (hb : b < D) : FitS m D (store4 w b v0 v1 v2 v3) v := by
  obtain ⟨e, X, Y, h1, h2⟩ := h
  exact ⟨e, X, Y, store4_out h1 hb, h2⟩
theorem fits_of {m e : Nat} {X Y : List Int} (h1 : 1 ≤ m) (h2 : m ≤ 16) (h3 : e < m) (h4 : X.length = m * m) (h5 : Y.length = m * m) (h6 : InR m X) (h7 : InR m Y) : fitsB m e X Y = true :=
  fitsB_iff.2 ⟨by omega, by omega, ⟨by omega, by omega⟩, by rw [h4]; simp, by rw [h5]; simp, h6, h7⟩
theorem fit_new {D m e : Nat} {w : World} {v : Value} {X Y : List Int} (h : NewRing D w v m e (m * m) X Y) (h1 : 1 ≤ m) (h2 : m ≤ 16) (h3 : e < m) (h4 : X.length = m * m) (h5 : Y.length = m * m) (h6 : InR m X) (h7 : InR m Y) : FitS m D w v :=
  ⟨e, X, Y, h.out (sqN h2) h4 h5, fits_of h1 h2 h3 h4 h5 h6 h7⟩
/-- Where its tables lie. -/
theorem FitS.at_ {m D : Nat} {w : World} {v : Value} (h : FitS m D w v) : ∃ (e b1 o1 la ca b2 o2 lb cb : Nat) (S P : Nat → Nat), v = .agg #[.int .i64 m, .int .i64 e, .slice (some ⟨b1, o1, none⟩) la ca, .slice (some ⟨b2, o2, none⟩) lb cb] ∧ RingAt w m e b1 o1 la ca b2 o2 lb cb S P ∧ D ≤ b1 ∧ D ≤ b2 := by
  obtain ⟨e, X, Y, ⟨A, la, ca, B, lb, cb, rfl, h1, h2, _, _, _, _, h3, h4⟩, hf⟩ := h
  obtain ⟨m', e', em, ee, hm, hm', he, hX, hY, tX, tY⟩ := fits_data hf
  have em' : m = m' := by omega
  have ee' : e = e' := by omega
  subst em' ee'
  have hp : 0 < m * m := Nat.mul_pos hm hm
  have lX : la = m * m := by rw [← hX, ← h1.1]
  have lY : lb = m * m := by rw [← hY, ← h2.1]
  obtain ⟨b1, o1, rfl, t1⟩ := tab_of_ints h1.ints hm hX tX
  obtain ⟨b2, o2, rfl, t2⟩ := tab_of_ints h2.ints hm hY tY
  obtain ⟨g1, f1, e1, d1, _⟩ := h1.2 (by omega)
  obtain ⟨g2, f2, e2, d2, _⟩ := h2.2 (by omega)
  injection e1 with e1
  injection e1 with e1 _
  injection e2 with e2
  injection e2 with e2 _
  subst e1 e2
  exact ⟨e, _, _, la, ca, _, _, lb, cb, _, _, rfl, ⟨hm, hm', he, lX, lY, h3, h4, t1, t2⟩, d1, d2⟩
theorem addZ_in {m k : Nat} (hm : 1 ≤ m) : InR m (addZ m k) := InR_of fun x hx => by
  simp only [addZ, List.mem_map, List.mem_range] at hx
  obtain ⟨j, _, rfl⟩ := hx
  have : (j / m + j % m) % m < m := Nat.mod_lt _ (by omega)
  omega
theorem mulZ_in {m k : Nat} (hm : 1 ≤ m) : InR m (mulZ m k) := InR_of fun x hx => by
  simp only [mulZ, List.mem_map, List.mem_range] at hx
  obtain ⟨j, _, rfl⟩ := hx
  have : j / m * (j % m) % m < m := Nat.mod_lt _ (by omega)
  omega
theorem fit_int (m : Nat) (x : Int) (hx : x = m) (hm : 1 ≤ m) (hm' : m ≤ 16) (w : World) : Calls Try.prog 87 #[.int .i64 x] w fun e w' => ∃ v, e = .returned v ∧ FitS m w.heap.size w' v ∧ Below w.heap.size w w' := by
  subst hx
  refine (l1Integers_any m hm hm' w).mono ?_
  rintro e w' ⟨v, rfl, hn, hb⟩
  exact ⟨v, rfl, fit_new hn hm hm' (Nat.mod_lt _ hm) (by simp [addZ]) (by simp [mulZ]) (addZ_in hm) (mulZ_in hm), hb⟩
theorem ints_lit {w : World} {l : List Int} {cs : Array Value} {T : TypeId} (h : cs = (l.map (Value.int .i64)).toArray) : Ints (w.alloc (.cells cs T)) (w.alloc (.cells cs T)).heap.size (some ⟨w.heap.size, 0, none⟩) l.length l := by
  subst h
  refine ⟨rfl, fun _ => ⟨w.heap.size, 0, rfl, by simp, fun k x hx => ?_⟩⟩
  rw [(Blk.new w T _).cell]
  simp [hx]
theorem fit_tower (n N : Nat) (x : Int) (l : List Int) (w : World) (A : Option Addr) (c : Nat) (hx : x = n) (hn : 1 ≤ n) (hl : 1 ≤ l.length) (hl' : l.length ≤ 8) (hN : n ^ l.length = N) (hN' : N ≤ 16) (hr : ∀ y ∈ l, 0 ≤ y ∧ y < (n : Int)) (hi : Ints w w.heap.size A l.length l) :
    Calls Try.prog 102 #[.int .i64 x, .slice A l.length c] w fun e w' => ∃ v, e = .returned v ∧ FitS N w.heap.size w' v ∧ Below w.heap.size w w' := by
  subst hx
  refine (l1Tower_any n l.length N A c l w hn hl hN hN' hl' hi (InR_of hr)).mono ?_
  rintro e w' ⟨v, X, Y, rfl, h1, h2, h3, h4, h5, hb⟩
  have hN1 : 1 ≤ N := by rw [← hN]; exact Nat.pow_pos hn
  exact ⟨v, rfl, fit_new h1 hN1 hN' (Nat.mod_lt _ hN1) h2 h3 h4 h5, hb⟩
theorem tabG_in {m k : Nat} {f : Nat → Nat → Nat} (hk : k ≤ m * m) (h : ∀ a b, a < m → b < m → f a b < m) : InR m (tabG m f k) := InR_of fun x hx => by
  simp only [tabG, List.mem_map, List.mem_range] at hx
  obtain ⟨j, hj, rfl⟩ := hx
  obtain ⟨p1, p2⟩ := parts2 (show j < m * m by omega)
  have := h _ _ p1 p2
  omega
theorem pair_lt {x y m q : Nat} (hx : x < m) (hy : y < q) : x * q + y < m * q := by
  have : (x + 1) * q ≤ m * q := Nat.mul_le_mul_right _ hx
  rw [Nat.add_mul, Nat.one_mul] at this
  omega
theorem fit_product (m q D1 D2 : Nat) (v u : Value) (w : World) (h1 : FitS m D1 w v) (h2 : FitS q D2 w u) (hmq : m * q ≤ 16) :
    Calls Try.prog 103 #[v, u] w fun e w' => ∃ v, e = .returned v ∧ FitS (m * q) w.heap.size w' v ∧ Below w.heap.size w w' := by
  obtain ⟨e, b1, o1, la, ca, b2, o2, lb, cb, S, P, rfl, hr, _⟩ := h1.at_
  obtain ⟨f, c1, p1, ka, da, c2, p2, kb, db, T, U, rfl, hs, _⟩ := h2.at_
  refine (l1Product_any m e b1 o1 la ca b2 o2 lb cb S P q f c1 p1 ka da c2 p2 kb db T U w hr hs hmq).mono ?_
  rintro _ w' ⟨v, rfl, hn, hb⟩
  have hp : 1 ≤ m * q := Nat.mul_pos hr.hm hs.hm
  have bound : ∀ (F G : Nat → Nat), (∀ x y, x < m → y < m → F (x * m + y) < m) → (∀ x y, x < q → y < q → G (x * q + y) < q) → ∀ a b, a < m * q → b < m * q → prodF m q F G a b < m * q := by
    intro F G hF hG a b ha hb'
    obtain ⟨x1, x2⟩ := prod_parts hs.hm ha
    obtain ⟨y1, y2⟩ := prod_parts hs.hm hb'
    exact pair_lt (hF _ _ x1 y1) (hG _ _ x2 y2)
  exact ⟨v, rfl, fit_new hn hp hmq (pair_lt hr.he hs.he) tabG_length tabG_length (tabG_in (Nat.le_refl _) (bound S T (fun _ _ h h' => hr.ts.lt h h') (fun _ _ h h' => hs.ts.lt h h'))) (tabG_in (Nat.le_refl _) (bound P U (fun _ _ h h' => hr.tp.lt h h') (fun _ _ h h' => hs.tp.lt h h'))), hb⟩

end Go.Proofs.Ytahdkdpliphcnaa



/- The drawing side: l1Known, a ring by a number. -/
namespace Go.Proofs.Ytahdkdpliphcnaa
open Go.RowKit

set_option maxHeartbeats 4000000 in
set_option maxRecDepth 100000 in
theorem l1Known_0 (k : Int) (w : World) (hk0 : 0 ≤ k) (hk : k % 12 = 0) :
    Calls Try.prog 86 #[.int .i64 k] w fun e w' => ∃ v, e = .returned v ∧ FitOut w.heap.size w' v ∧ Below w.heap.size w w' := by
  obtain ⟨W, hW⟩ : ∃ W, w.alloc (.cells #[.int .i64 0, .int .i64 0, .slice none 0 0, .slice none 0 0] 27) = W := ⟨_, rfl⟩
  have hw : w.heap.size < W.heap.size := by subst hW; simp
  have K0 := Lib.hid (show Blk W w.heap.size 27 #[.int .i64 0, .int .i64 0, .slice none 0 0, .slice none 0 0] by subst hW; exact Blk.new w _ _)
  have B0 := Lib.hid (show Below w.heap.size w W by subst hW; exact (Below.refl _ _).alloc (Nat.le_refl _) _)
  go_enter Try.func86, Try.ntmps86
  go_upto_region 2 with (fail)
  clear hW
  go_wp2_with (go_at_call 87; refine (fit_int 4 _ rfl (by decide) (by decide) W).mono ?_; rintro _ wz ⟨v, rfl, HF, HB⟩; have KW := Lib.hid (K0.out.next HB); have BW := Lib.hid (B0.out.trans (HB.mono B0.out.size)); obtain ⟨e0, X0, Y0, ⟨A0, la0, ca0, B0, lb0, cb0, rfl, R1⟩, R2⟩ := HF; have FW := Lib.hid (show FitS 4 W.heap.size wz (.agg #[.int .i64 ((4 : Nat) : Int), .int .i64 e0, .slice A0 la0 ca0, .slice B0 lb0 cb0]) from ⟨e0, X0, Y0, ⟨A0, la0, ca0, B0, lb0, cb0, rfl, R1⟩, R2⟩); have d0 := KW.out.cell 0; have d1 := KW.out.cell 1; have d2 := KW.out.cell 2; have d3 := KW.out.cell 3; have f0 := KW.out.frozen 0; have f1 := KW.out.frozen 1; have f2 := KW.out.frozen 2; have f3 := KW.out.frozen 3; simp at d0 d1 d2 d3; clear R1 R2 HB)
  refine bodyPost_ret (v := .agg #[.int .i64 ((4 : Nat) : Int), .int .i64 e0, .slice A0 la0 ca0, .slice B0 lb0 cb0]) ?_ rfl ⟨_, rfl, ⟨4, ?_⟩, ?_⟩
  · exact results_cell_row Try.results86 _ _ w.heap.size 27 _ (0, 0) _ rfl (store4_blk KW.out) Try.underlying27 rfl (by kernel_rfl)
  · exact (FW.out.store hw).lower (Nat.le_of_lt hw)
  · exact store4_below BW.out (Nat.le_refl _)

set_option maxHeartbeats 4000000 in
set_option maxRecDepth 100000 in
theorem l1Known_1 (k : Int) (w : World) (hk0 : 0 ≤ k) (hk : k % 12 = 1) :
    Calls Try.prog 86 #[.int .i64 k] w fun e w' => ∃ v, e = .returned v ∧ FitOut w.heap.size w' v ∧ Below w.heap.size w w' := by
  obtain ⟨W, hW⟩ : ∃ W, w.alloc (.cells #[.int .i64 0, .int .i64 0, .slice none 0 0, .slice none 0 0] 27) = W := ⟨_, rfl⟩
  have hw : w.heap.size < W.heap.size := by subst hW; simp
  have K0 := Lib.hid (show Blk W w.heap.size 27 #[.int .i64 0, .int .i64 0, .slice none 0 0, .slice none 0 0] by subst hW; exact Blk.new w _ _)
  have B0 := Lib.hid (show Below w.heap.size w W by subst hW; exact (Below.refl _ _).alloc (Nat.le_refl _) _)
  go_enter Try.func86, Try.ntmps86
  go_upto_region 2 with (fail)
  clear hW
  go_wp2_with (go_at_call 87; refine (fit_int 6 _ rfl (by decide) (by decide) W).mono ?_; rintro _ wz ⟨v, rfl, HF, HB⟩; have KW := Lib.hid (K0.out.next HB); have BW := Lib.hid (B0.out.trans (HB.mono B0.out.size)); obtain ⟨e0, X0, Y0, ⟨A0, la0, ca0, B0, lb0, cb0, rfl, R1⟩, R2⟩ := HF; have FW := Lib.hid (show FitS 6 W.heap.size wz (.agg #[.int .i64 ((6 : Nat) : Int), .int .i64 e0, .slice A0 la0 ca0, .slice B0 lb0 cb0]) from ⟨e0, X0, Y0, ⟨A0, la0, ca0, B0, lb0, cb0, rfl, R1⟩, R2⟩); have d0 := KW.out.cell 0; have d1 := KW.out.cell 1; have d2 := KW.out.cell 2; have d3 := KW.out.cell 3; have f0 := KW.out.frozen 0; have f1 := KW.out.frozen 1; have f2 := KW.out.frozen 2; have f3 := KW.out.frozen 3; simp at d0 d1 d2 d3; clear R1 R2 HB)
  refine bodyPost_ret (v := .agg #[.int .i64 ((6 : Nat) : Int), .int .i64 e0, .slice A0 la0 ca0, .slice B0 lb0 cb0]) ?_ rfl ⟨_, rfl, ⟨6, ?_⟩, ?_⟩
  · exact results_cell_row Try.results86 _ _ w.heap.size 27 _ (0, 0) _ rfl (store4_blk KW.out) Try.underlying27 rfl (by kernel_rfl)
  · exact (FW.out.store hw).lower (Nat.le_of_lt hw)
  · exact store4_below BW.out (Nat.le_refl _)

set_option maxHeartbeats 4000000 in
set_option maxRecDepth 100000 in
theorem l1Known_2 (k : Int) (w : World) (hk0 : 0 ≤ k) (hk : k % 12 = 2) :
    Calls Try.prog 86 #[.int .i64 k] w fun e w' => ∃ v, e = .returned v ∧ FitOut w.heap.size w' v ∧ Below w.heap.size w w' := by
  obtain ⟨W, hW⟩ : ∃ W, w.alloc (.cells #[.int .i64 0, .int .i64 0, .slice none 0 0, .slice none 0 0] 27) = W := ⟨_, rfl⟩
  have hw : w.heap.size < W.heap.size := by subst hW; simp
  have K0 := Lib.hid (show Blk W w.heap.size 27 #[.int .i64 0, .int .i64 0, .slice none 0 0, .slice none 0 0] by subst hW; exact Blk.new w _ _)
  have B0 := Lib.hid (show Below w.heap.size w W by subst hW; exact (Below.refl _ _).alloc (Nat.le_refl _) _)
  go_enter Try.func86, Try.ntmps86
  go_upto_region 2 with (fail)
  clear hW
  have IL := Lib.hid (ints_lit (w := W) (l := [1, 1]) (cs := #[.int .i64 1, .int .i64 1]) (T := 3) rfl)
  have BL := Lib.hid ((Below.refl W.heap.size W).alloc (Nat.le_refl _) (.cells #[.int .i64 1, .int .i64 1] 3))
  go_wp2_with (go_at_call 102; refine (fit_tower 2 4 _ [1, 1] _ _ _ rfl (by decide) (by decide) (by decide) (by decide) (by decide) (by decide) IL.out).mono ?_; rintro _ wz ⟨v, rfl, HF, HB⟩; have HF := HF.lower BL.out.size; have HB := BL.out.trans (HB.mono BL.out.size); have KW := Lib.hid (K0.out.next HB); have BW := Lib.hid (B0.out.trans (HB.mono B0.out.size)); obtain ⟨e0, X0, Y0, ⟨A0, la0, ca0, B0, lb0, cb0, rfl, R1⟩, R2⟩ := HF; have FW := Lib.hid (show FitS 4 W.heap.size wz (.agg #[.int .i64 ((4 : Nat) : Int), .int .i64 e0, .slice A0 la0 ca0, .slice B0 lb0 cb0]) from ⟨e0, X0, Y0, ⟨A0, la0, ca0, B0, lb0, cb0, rfl, R1⟩, R2⟩); have d0 := KW.out.cell 0; have d1 := KW.out.cell 1; have d2 := KW.out.cell 2; have d3 := KW.out.cell 3; have f0 := KW.out.frozen 0; have f1 := KW.out.frozen 1; have f2 := KW.out.frozen 2; have f3 := KW.out.frozen 3; simp at d0 d1 d2 d3; clear R1 R2 HB)
  refine bodyPost_ret (v := .agg #[.int .i64 ((4 : Nat) : Int), .int .i64 e0, .slice A0 la0 ca0, .slice B0 lb0 cb0]) ?_ rfl ⟨_, rfl, ⟨4, ?_⟩, ?_⟩
  · exact results_cell_row Try.results86 _ _ w.heap.size 27 _ (0, 0) _ rfl (store4_blk KW.out) Try.underlying27 rfl (by kernel_rfl)
  · exact (FW.out.store hw).lower (Nat.le_of_lt hw)
  · exact store4_below BW.out (Nat.le_refl _)

set_option maxHeartbeats 4000000 in
set_option maxRecDepth 100000 in
theorem l1Known_3 (k : Int) (w : World) (hk0 : 0 ≤ k) (hk : k % 12 = 3) :
    Calls Try.prog 86 #[.int .i64 k] w fun e w' => ∃ v, e = .returned v ∧ FitOut w.heap.size w' v ∧ Below w.heap.size w w' := by
  obtain ⟨W, hW⟩ : ∃ W, w.alloc (.cells #[.int .i64 0, .int .i64 0, .slice none 0 0, .slice none 0 0] 27) = W := ⟨_, rfl⟩
  have hw : w.heap.size < W.heap.size := by subst hW; simp
  have K0 := Lib.hid (show Blk W w.heap.size 27 #[.int .i64 0, .int .i64 0, .slice none 0 0, .slice none 0 0] by subst hW; exact Blk.new w _ _)
  have B0 := Lib.hid (show Below w.heap.size w W by subst hW; exact (Below.refl _ _).alloc (Nat.le_refl _) _)
  go_enter Try.func86, Try.ntmps86
  go_upto_region 2 with (fail)
  clear hW
  have IL := Lib.hid (ints_lit (w := W) (l := [0, 0]) (cs := #[.int .i64 0, .int .i64 0]) (T := 3) rfl)
  have BL := Lib.hid ((Below.refl W.heap.size W).alloc (Nat.le_refl _) (.cells #[.int .i64 0, .int .i64 0] 3))
  go_wp2_with (go_at_call 102; refine (fit_tower 2 4 _ [0, 0] _ _ _ rfl (by decide) (by decide) (by decide) (by decide) (by decide) (by decide) IL.out).mono ?_; rintro _ wz ⟨v, rfl, HF, HB⟩; have HF := HF.lower BL.out.size; have HB := BL.out.trans (HB.mono BL.out.size); have KW := Lib.hid (K0.out.next HB); have BW := Lib.hid (B0.out.trans (HB.mono B0.out.size)); obtain ⟨e0, X0, Y0, ⟨A0, la0, ca0, B0, lb0, cb0, rfl, R1⟩, R2⟩ := HF; have FW := Lib.hid (show FitS 4 W.heap.size wz (.agg #[.int .i64 ((4 : Nat) : Int), .int .i64 e0, .slice A0 la0 ca0, .slice B0 lb0 cb0]) from ⟨e0, X0, Y0, ⟨A0, la0, ca0, B0, lb0, cb0, rfl, R1⟩, R2⟩); have d0 := KW.out.cell 0; have d1 := KW.out.cell 1; have d2 := KW.out.cell 2; have d3 := KW.out.cell 3; have f0 := KW.out.frozen 0; have f1 := KW.out.frozen 1; have f2 := KW.out.frozen 2; have f3 := KW.out.frozen 3; simp at d0 d1 d2 d3; clear R1 R2 HB)
  refine bodyPost_ret (v := .agg #[.int .i64 ((4 : Nat) : Int), .int .i64 e0, .slice A0 la0 ca0, .slice B0 lb0 cb0]) ?_ rfl ⟨_, rfl, ⟨4, ?_⟩, ?_⟩
  · exact results_cell_row Try.results86 _ _ w.heap.size 27 _ (0, 0) _ rfl (store4_blk KW.out) Try.underlying27 rfl (by kernel_rfl)
  · exact (FW.out.store hw).lower (Nat.le_of_lt hw)
  · exact store4_below BW.out (Nat.le_refl _)

set_option maxHeartbeats 4000000 in
set_option maxRecDepth 100000 in
theorem l1Known_4 (k : Int) (w : World) (hk0 : 0 ≤ k) (hk : k % 12 = 4) :
    Calls Try.prog 86 #[.int .i64 k] w fun e w' => ∃ v, e = .returned v ∧ FitOut w.heap.size w' v ∧ Below w.heap.size w w' := by
  obtain ⟨W, hW⟩ : ∃ W, w.alloc (.cells #[.int .i64 0, .int .i64 0, .slice none 0 0, .slice none 0 0] 27) = W := ⟨_, rfl⟩
  have hw : w.heap.size < W.heap.size := by subst hW; simp
  have K0 := Lib.hid (show Blk W w.heap.size 27 #[.int .i64 0, .int .i64 0, .slice none 0 0, .slice none 0 0] by subst hW; exact Blk.new w _ _)
  have B0 := Lib.hid (show Below w.heap.size w W by subst hW; exact (Below.refl _ _).alloc (Nat.le_refl _) _)
  go_enter Try.func86, Try.ntmps86
  go_upto_region 2 with (fail)
  clear hW
  have I1 := fun x => fit_int 2 2 rfl (by decide) (by decide) x
  have I2 := fun x => fit_int 2 2 rfl (by decide) (by decide) x
  go_wp2_with (first | (go_at_call 87; with_reducible refine (I1 W).mono ?_; rintro _ wx ⟨v1, rfl, HF1, HB1⟩; have HF1 := Lib.hid HF1; have HB1 := Lib.hid HB1) | (go_at_call 87; with_reducible refine (I2 wx).mono ?_; rintro _ wy ⟨v2, rfl, HF2, HB2⟩; have HF2 := Lib.hid HF2; have HB2 := Lib.hid HB2) | (go_at_call 103; refine (fit_product 2 2 _ _ v1 v2 wy (HF1.out.next HB2.out) HF2.out (by decide)).mono ?_; rintro _ wz ⟨v, rfl, HF, HB⟩; have b1 := HB1.out.trans (HB2.out.mono HB1.out.size); have HF := HF.lower b1.size; have HB := b1.trans (HB.mono b1.size); have HF : FitS 4 W.heap.size wz v := HF; clear b1; have KW := Lib.hid (K0.out.next HB); have BW := Lib.hid (B0.out.trans (HB.mono B0.out.size)); obtain ⟨e0, X0, Y0, ⟨A0, la0, ca0, B0, lb0, cb0, rfl, R1⟩, R2⟩ := HF; have FW := Lib.hid (show FitS 4 W.heap.size wz (.agg #[.int .i64 ((4 : Nat) : Int), .int .i64 e0, .slice A0 la0 ca0, .slice B0 lb0 cb0]) from ⟨e0, X0, Y0, ⟨A0, la0, ca0, B0, lb0, cb0, rfl, R1⟩, R2⟩); have d0 := KW.out.cell 0; have d1 := KW.out.cell 1; have d2 := KW.out.cell 2; have d3 := KW.out.cell 3; have f0 := KW.out.frozen 0; have f1 := KW.out.frozen 1; have f2 := KW.out.frozen 2; have f3 := KW.out.frozen 3; simp at d0 d1 d2 d3; clear R1 R2 HB))
  refine bodyPost_ret (v := .agg #[.int .i64 ((4 : Nat) : Int), .int .i64 e0, .slice A0 la0 ca0, .slice B0 lb0 cb0]) ?_ rfl ⟨_, rfl, ⟨4, ?_⟩, ?_⟩
  · exact results_cell_row Try.results86 _ _ w.heap.size 27 _ (0, 0) _ rfl (store4_blk KW.out) Try.underlying27 rfl (by kernel_rfl)
  · exact (FW.out.store hw).lower (Nat.le_of_lt hw)
  · exact store4_below BW.out (Nat.le_refl _)

set_option maxHeartbeats 4000000 in
set_option maxRecDepth 100000 in
theorem l1Known_5 (k : Int) (w : World) (hk0 : 0 ≤ k) (hk : k % 12 = 5) :
    Calls Try.prog 86 #[.int .i64 k] w fun e w' => ∃ v, e = .returned v ∧ FitOut w.heap.size w' v ∧ Below w.heap.size w w' := by
  obtain ⟨W, hW⟩ : ∃ W, w.alloc (.cells #[.int .i64 0, .int .i64 0, .slice none 0 0, .slice none 0 0] 27) = W := ⟨_, rfl⟩
  have hw : w.heap.size < W.heap.size := by subst hW; simp
  have K0 := Lib.hid (show Blk W w.heap.size 27 #[.int .i64 0, .int .i64 0, .slice none 0 0, .slice none 0 0] by subst hW; exact Blk.new w _ _)
  have B0 := Lib.hid (show Below w.heap.size w W by subst hW; exact (Below.refl _ _).alloc (Nat.le_refl _) _)
  go_enter Try.func86, Try.ntmps86
  go_upto_region 2 with (fail)
  clear hW
  go_wp2_with (go_at_call 87; refine (fit_int 9 _ rfl (by decide) (by decide) W).mono ?_; rintro _ wz ⟨v, rfl, HF, HB⟩; have KW := Lib.hid (K0.out.next HB); have BW := Lib.hid (B0.out.trans (HB.mono B0.out.size)); obtain ⟨e0, X0, Y0, ⟨A0, la0, ca0, B0, lb0, cb0, rfl, R1⟩, R2⟩ := HF; have FW := Lib.hid (show FitS 9 W.heap.size wz (.agg #[.int .i64 ((9 : Nat) : Int), .int .i64 e0, .slice A0 la0 ca0, .slice B0 lb0 cb0]) from ⟨e0, X0, Y0, ⟨A0, la0, ca0, B0, lb0, cb0, rfl, R1⟩, R2⟩); have d0 := KW.out.cell 0; have d1 := KW.out.cell 1; have d2 := KW.out.cell 2; have d3 := KW.out.cell 3; have f0 := KW.out.frozen 0; have f1 := KW.out.frozen 1; have f2 := KW.out.frozen 2; have f3 := KW.out.frozen 3; simp at d0 d1 d2 d3; clear R1 R2 HB)
  refine bodyPost_ret (v := .agg #[.int .i64 ((9 : Nat) : Int), .int .i64 e0, .slice A0 la0 ca0, .slice B0 lb0 cb0]) ?_ rfl ⟨_, rfl, ⟨9, ?_⟩, ?_⟩
  · exact results_cell_row Try.results86 _ _ w.heap.size 27 _ (0, 0) _ rfl (store4_blk KW.out) Try.underlying27 rfl (by kernel_rfl)
  · exact (FW.out.store hw).lower (Nat.le_of_lt hw)
  · exact store4_below BW.out (Nat.le_refl _)

end Go.Proofs.Ytahdkdpliphcnaa



/- The drawing side: l1Known, a ring by a number. -/
namespace Go.Proofs.Ytahdkdpliphcnaa
open Go.RowKit

set_option maxHeartbeats 4000000 in
set_option maxRecDepth 100000 in
theorem l1Known_6 (k : Int) (w : World) (hk0 : 0 ≤ k) (hk : k % 12 = 6) :
    Calls Try.prog 86 #[.int .i64 k] w fun e w' => ∃ v, e = .returned v ∧ FitOut w.heap.size w' v ∧ Below w.heap.size w w' := by
  obtain ⟨W, hW⟩ : ∃ W, w.alloc (.cells #[.int .i64 0, .int .i64 0, .slice none 0 0, .slice none 0 0] 27) = W := ⟨_, rfl⟩
  have hw : w.heap.size < W.heap.size := by subst hW; simp
  have K0 := Lib.hid (show Blk W w.heap.size 27 #[.int .i64 0, .int .i64 0, .slice none 0 0, .slice none 0 0] by subst hW; exact Blk.new w _ _)
  have B0 := Lib.hid (show Below w.heap.size w W by subst hW; exact (Below.refl _ _).alloc (Nat.le_refl _) _)
  go_enter Try.func86, Try.ntmps86
  go_upto_region 2 with (fail)
  clear hW
  have IL := Lib.hid (ints_lit (w := W) (l := [1, 0]) (cs := #[.int .i64 1, .int .i64 0]) (T := 3) rfl)
  have BL := Lib.hid ((Below.refl W.heap.size W).alloc (Nat.le_refl _) (.cells #[.int .i64 1, .int .i64 0] 3))
  go_wp2_with (go_at_call 102; refine (fit_tower 3 9 _ [1, 0] _ _ _ rfl (by decide) (by decide) (by decide) (by decide) (by decide) (by decide) IL.out).mono ?_; rintro _ wz ⟨v, rfl, HF, HB⟩; have HF := HF.lower BL.out.size; have HB := BL.out.trans (HB.mono BL.out.size); have KW := Lib.hid (K0.out.next HB); have BW := Lib.hid (B0.out.trans (HB.mono B0.out.size)); obtain ⟨e0, X0, Y0, ⟨A0, la0, ca0, B0, lb0, cb0, rfl, R1⟩, R2⟩ := HF; have FW := Lib.hid (show FitS 9 W.heap.size wz (.agg #[.int .i64 ((9 : Nat) : Int), .int .i64 e0, .slice A0 la0 ca0, .slice B0 lb0 cb0]) from ⟨e0, X0, Y0, ⟨A0, la0, ca0, B0, lb0, cb0, rfl, R1⟩, R2⟩); have d0 := KW.out.cell 0; have d1 := KW.out.cell 1; have d2 := KW.out.cell 2; have d3 := KW.out.cell 3; have f0 := KW.out.frozen 0; have f1 := KW.out.frozen 1; have f2 := KW.out.frozen 2; have f3 := KW.out.frozen 3; simp at d0 d1 d2 d3; clear R1 R2 HB)
  refine bodyPost_ret (v := .agg #[.int .i64 ((9 : Nat) : Int), .int .i64 e0, .slice A0 la0 ca0, .slice B0 lb0 cb0]) ?_ rfl ⟨_, rfl, ⟨9, ?_⟩, ?_⟩
  · exact results_cell_row Try.results86 _ _ w.heap.size 27 _ (0, 0) _ rfl (store4_blk KW.out) Try.underlying27 rfl (by kernel_rfl)
  · exact (FW.out.store hw).lower (Nat.le_of_lt hw)
  · exact store4_below BW.out (Nat.le_refl _)

set_option maxHeartbeats 4000000 in
set_option maxRecDepth 100000 in
theorem l1Known_7 (k : Int) (w : World) (hk0 : 0 ≤ k) (hk : k % 12 = 7) :
    Calls Try.prog 86 #[.int .i64 k] w fun e w' => ∃ v, e = .returned v ∧ FitOut w.heap.size w' v ∧ Below w.heap.size w w' := by
  obtain ⟨W, hW⟩ : ∃ W, w.alloc (.cells #[.int .i64 0, .int .i64 0, .slice none 0 0, .slice none 0 0] 27) = W := ⟨_, rfl⟩
  have hw : w.heap.size < W.heap.size := by subst hW; simp
  have K0 := Lib.hid (show Blk W w.heap.size 27 #[.int .i64 0, .int .i64 0, .slice none 0 0, .slice none 0 0] by subst hW; exact Blk.new w _ _)
  have B0 := Lib.hid (show Below w.heap.size w W by subst hW; exact (Below.refl _ _).alloc (Nat.le_refl _) _)
  go_enter Try.func86, Try.ntmps86
  go_upto_region 2 with (fail)
  clear hW
  have I1 := fun x => fit_int 2 2 rfl (by decide) (by decide) x
  have I2 := fun x => fit_int 4 4 rfl (by decide) (by decide) x
  go_wp2_with (first | (go_at_call 87; with_reducible refine (I1 W).mono ?_; rintro _ wx ⟨v1, rfl, HF1, HB1⟩; have HF1 := Lib.hid HF1; have HB1 := Lib.hid HB1) | (go_at_call 87; with_reducible refine (I2 wx).mono ?_; rintro _ wy ⟨v2, rfl, HF2, HB2⟩; have HF2 := Lib.hid HF2; have HB2 := Lib.hid HB2) | (go_at_call 103; refine (fit_product 2 4 _ _ v1 v2 wy (HF1.out.next HB2.out) HF2.out (by decide)).mono ?_; rintro _ wz ⟨v, rfl, HF, HB⟩; have b1 := HB1.out.trans (HB2.out.mono HB1.out.size); have HF := HF.lower b1.size; have HB := b1.trans (HB.mono b1.size); have HF : FitS 8 W.heap.size wz v := HF; clear b1; have KW := Lib.hid (K0.out.next HB); have BW := Lib.hid (B0.out.trans (HB.mono B0.out.size)); obtain ⟨e0, X0, Y0, ⟨A0, la0, ca0, B0, lb0, cb0, rfl, R1⟩, R2⟩ := HF; have FW := Lib.hid (show FitS 8 W.heap.size wz (.agg #[.int .i64 ((8 : Nat) : Int), .int .i64 e0, .slice A0 la0 ca0, .slice B0 lb0 cb0]) from ⟨e0, X0, Y0, ⟨A0, la0, ca0, B0, lb0, cb0, rfl, R1⟩, R2⟩); have d0 := KW.out.cell 0; have d1 := KW.out.cell 1; have d2 := KW.out.cell 2; have d3 := KW.out.cell 3; have f0 := KW.out.frozen 0; have f1 := KW.out.frozen 1; have f2 := KW.out.frozen 2; have f3 := KW.out.frozen 3; simp at d0 d1 d2 d3; clear R1 R2 HB))
  refine bodyPost_ret (v := .agg #[.int .i64 ((8 : Nat) : Int), .int .i64 e0, .slice A0 la0 ca0, .slice B0 lb0 cb0]) ?_ rfl ⟨_, rfl, ⟨8, ?_⟩, ?_⟩
  · exact results_cell_row Try.results86 _ _ w.heap.size 27 _ (0, 0) _ rfl (store4_blk KW.out) Try.underlying27 rfl (by kernel_rfl)
  · exact (FW.out.store hw).lower (Nat.le_of_lt hw)
  · exact store4_below BW.out (Nat.le_refl _)

set_option maxHeartbeats 4000000 in
set_option maxRecDepth 100000 in
theorem l1Known_8 (k : Int) (w : World) (hk0 : 0 ≤ k) (hk : k % 12 = 8) :
    Calls Try.prog 86 #[.int .i64 k] w fun e w' => ∃ v, e = .returned v ∧ FitOut w.heap.size w' v ∧ Below w.heap.size w w' := by
  obtain ⟨W, hW⟩ : ∃ W, w.alloc (.cells #[.int .i64 0, .int .i64 0, .slice none 0 0, .slice none 0 0] 27) = W := ⟨_, rfl⟩
  have hw : w.heap.size < W.heap.size := by subst hW; simp
  have K0 := Lib.hid (show Blk W w.heap.size 27 #[.int .i64 0, .int .i64 0, .slice none 0 0, .slice none 0 0] by subst hW; exact Blk.new w _ _)
  have B0 := Lib.hid (show Below w.heap.size w W by subst hW; exact (Below.refl _ _).alloc (Nat.le_refl _) _)
  go_enter Try.func86, Try.ntmps86
  go_upto_region 2 with (fail)
  clear hW
  go_wp2_with (go_at_call 87; refine (fit_int 12 _ rfl (by decide) (by decide) W).mono ?_; rintro _ wz ⟨v, rfl, HF, HB⟩; have KW := Lib.hid (K0.out.next HB); have BW := Lib.hid (B0.out.trans (HB.mono B0.out.size)); obtain ⟨e0, X0, Y0, ⟨A0, la0, ca0, B0, lb0, cb0, rfl, R1⟩, R2⟩ := HF; have FW := Lib.hid (show FitS 12 W.heap.size wz (.agg #[.int .i64 ((12 : Nat) : Int), .int .i64 e0, .slice A0 la0 ca0, .slice B0 lb0 cb0]) from ⟨e0, X0, Y0, ⟨A0, la0, ca0, B0, lb0, cb0, rfl, R1⟩, R2⟩); have d0 := KW.out.cell 0; have d1 := KW.out.cell 1; have d2 := KW.out.cell 2; have d3 := KW.out.cell 3; have f0 := KW.out.frozen 0; have f1 := KW.out.frozen 1; have f2 := KW.out.frozen 2; have f3 := KW.out.frozen 3; simp at d0 d1 d2 d3; clear R1 R2 HB)
  refine bodyPost_ret (v := .agg #[.int .i64 ((12 : Nat) : Int), .int .i64 e0, .slice A0 la0 ca0, .slice B0 lb0 cb0]) ?_ rfl ⟨_, rfl, ⟨12, ?_⟩, ?_⟩
  · exact results_cell_row Try.results86 _ _ w.heap.size 27 _ (0, 0) _ rfl (store4_blk KW.out) Try.underlying27 rfl (by kernel_rfl)
  · exact (FW.out.store hw).lower (Nat.le_of_lt hw)
  · exact store4_below BW.out (Nat.le_refl _)

end Go.Proofs.Ytahdkdpliphcnaa



/- The drawing side: l1Known, a ring by a number. -/
namespace Go.Proofs.Ytahdkdpliphcnaa
open Go.RowKit

set_option maxHeartbeats 4000000 in
set_option maxRecDepth 100000 in
theorem l1Known_9 (k : Int) (w : World) (hk0 : 0 ≤ k) (hk : k % 12 = 9) :
    Calls Try.prog 86 #[.int .i64 k] w fun e w' => ∃ v, e = .returned v ∧ FitOut w.heap.size w' v ∧ Below w.heap.size w w' := by
  obtain ⟨W, hW⟩ : ∃ W, w.alloc (.cells #[.int .i64 0, .int .i64 0, .slice none 0 0, .slice none 0 0] 27) = W := ⟨_, rfl⟩
  have hw : w.heap.size < W.heap.size := by subst hW; simp
  have K0 := Lib.hid (show Blk W w.heap.size 27 #[.int .i64 0, .int .i64 0, .slice none 0 0, .slice none 0 0] by subst hW; exact Blk.new w _ _)
  have B0 := Lib.hid (show Below w.heap.size w W by subst hW; exact (Below.refl _ _).alloc (Nat.le_refl _) _)
  go_enter Try.func86, Try.ntmps86
  go_upto_region 2 with (fail)
  clear hW
  have IL := Lib.hid (ints_lit (w := W) (l := [0, 0, 0]) (cs := #[.int .i64 0, .int .i64 0, .int .i64 0]) (T := 3) rfl)
  have BL := Lib.hid ((Below.refl W.heap.size W).alloc (Nat.le_refl _) (.cells #[.int .i64 0, .int .i64 0, .int .i64 0] 3))
  go_wp2_with (go_at_call 102; refine (fit_tower 2 8 _ [0, 0, 0] _ _ _ rfl (by decide) (by decide) (by decide) (by decide) (by decide) (by decide) IL.out).mono ?_; rintro _ wz ⟨v, rfl, HF, HB⟩; have HF := HF.lower BL.out.size; have HB := BL.out.trans (HB.mono BL.out.size); have KW := Lib.hid (K0.out.next HB); have BW := Lib.hid (B0.out.trans (HB.mono B0.out.size)); obtain ⟨e0, X0, Y0, ⟨A0, la0, ca0, B0, lb0, cb0, rfl, R1⟩, R2⟩ := HF; have FW := Lib.hid (show FitS 8 W.heap.size wz (.agg #[.int .i64 ((8 : Nat) : Int), .int .i64 e0, .slice A0 la0 ca0, .slice B0 lb0 cb0]) from ⟨e0, X0, Y0, ⟨A0, la0, ca0, B0, lb0, cb0, rfl, R1⟩, R2⟩); have d0 := KW.out.cell 0; have d1 := KW.out.cell 1; have d2 := KW.out.cell 2; have d3 := KW.out.cell 3; have f0 := KW.out.frozen 0; have f1 := KW.out.frozen 1; have f2 := KW.out.frozen 2; have f3 := KW.out.frozen 3; simp at d0 d1 d2 d3; clear R1 R2 HB)
  refine bodyPost_ret (v := .agg #[.int .i64 ((8 : Nat) : Int), .int .i64 e0, .slice A0 la0 ca0, .slice B0 lb0 cb0]) ?_ rfl ⟨_, rfl, ⟨8, ?_⟩, ?_⟩
  · exact results_cell_row Try.results86 _ _ w.heap.size 27 _ (0, 0) _ rfl (store4_blk KW.out) Try.underlying27 rfl (by kernel_rfl)
  · exact (FW.out.store hw).lower (Nat.le_of_lt hw)
  · exact store4_below BW.out (Nat.le_refl _)

set_option maxHeartbeats 4000000 in
set_option maxRecDepth 100000 in
theorem l1Known_10 (k : Int) (w : World) (hk0 : 0 ≤ k) (hk : k % 12 = 10) :
    Calls Try.prog 86 #[.int .i64 k] w fun e w' => ∃ v, e = .returned v ∧ FitOut w.heap.size w' v ∧ Below w.heap.size w w' := by
  obtain ⟨W, hW⟩ : ∃ W, w.alloc (.cells #[.int .i64 0, .int .i64 0, .slice none 0 0, .slice none 0 0] 27) = W := ⟨_, rfl⟩
  have hw : w.heap.size < W.heap.size := by subst hW; simp
  have K0 := Lib.hid (show Blk W w.heap.size 27 #[.int .i64 0, .int .i64 0, .slice none 0 0, .slice none 0 0] by subst hW; exact Blk.new w _ _)
  have B0 := Lib.hid (show Below w.heap.size w W by subst hW; exact (Below.refl _ _).alloc (Nat.le_refl _) _)
  go_enter Try.func86, Try.ntmps86
  go_upto_region 2 with (fail)
  clear hW
  go_wp2_with (go_at_call 87; refine (fit_int 1 _ rfl (by decide) (by decide) W).mono ?_; rintro _ wz ⟨v, rfl, HF, HB⟩; have KW := Lib.hid (K0.out.next HB); have BW := Lib.hid (B0.out.trans (HB.mono B0.out.size)); obtain ⟨e0, X0, Y0, ⟨A0, la0, ca0, B0, lb0, cb0, rfl, R1⟩, R2⟩ := HF; have FW := Lib.hid (show FitS 1 W.heap.size wz (.agg #[.int .i64 ((1 : Nat) : Int), .int .i64 e0, .slice A0 la0 ca0, .slice B0 lb0 cb0]) from ⟨e0, X0, Y0, ⟨A0, la0, ca0, B0, lb0, cb0, rfl, R1⟩, R2⟩); have d0 := KW.out.cell 0; have d1 := KW.out.cell 1; have d2 := KW.out.cell 2; have d3 := KW.out.cell 3; have f0 := KW.out.frozen 0; have f1 := KW.out.frozen 1; have f2 := KW.out.frozen 2; have f3 := KW.out.frozen 3; simp at d0 d1 d2 d3; clear R1 R2 HB)
  refine bodyPost_ret (v := .agg #[.int .i64 ((1 : Nat) : Int), .int .i64 e0, .slice A0 la0 ca0, .slice B0 lb0 cb0]) ?_ rfl ⟨_, rfl, ⟨1, ?_⟩, ?_⟩
  · exact results_cell_row Try.results86 _ _ w.heap.size 27 _ (0, 0) _ rfl (store4_blk KW.out) Try.underlying27 rfl (by kernel_rfl)
  · exact (FW.out.store hw).lower (Nat.le_of_lt hw)
  · exact store4_below BW.out (Nat.le_refl _)

set_option maxHeartbeats 4000000 in
set_option maxRecDepth 100000 in
theorem l1Known_11 (k : Int) (w : World) (hk0 : 0 ≤ k) (hk : k % 12 = 11) :
    Calls Try.prog 86 #[.int .i64 k] w fun e w' => ∃ v, e = .returned v ∧ FitOut w.heap.size w' v ∧ Below w.heap.size w w' := by
  obtain ⟨W, hW⟩ : ∃ W, w.alloc (.cells #[.int .i64 0, .int .i64 0, .slice none 0 0, .slice none 0 0] 27) = W := ⟨_, rfl⟩
  have hw : w.heap.size < W.heap.size := by subst hW; simp
  have K0 := Lib.hid (show Blk W w.heap.size 27 #[.int .i64 0, .int .i64 0, .slice none 0 0, .slice none 0 0] by subst hW; exact Blk.new w _ _)
  have B0 := Lib.hid (show Below w.heap.size w W by subst hW; exact (Below.refl _ _).alloc (Nat.le_refl _) _)
  go_enter Try.func86, Try.ntmps86
  go_upto_region 2 with (fail)
  clear hW
  go_wp2_with (go_at_call 87; refine (fit_int 5 _ rfl (by decide) (by decide) W).mono ?_; rintro _ wz ⟨v, rfl, HF, HB⟩; have KW := Lib.hid (K0.out.next HB); have BW := Lib.hid (B0.out.trans (HB.mono B0.out.size)); obtain ⟨e0, X0, Y0, ⟨A0, la0, ca0, B0, lb0, cb0, rfl, R1⟩, R2⟩ := HF; have FW := Lib.hid (show FitS 5 W.heap.size wz (.agg #[.int .i64 ((5 : Nat) : Int), .int .i64 e0, .slice A0 la0 ca0, .slice B0 lb0 cb0]) from ⟨e0, X0, Y0, ⟨A0, la0, ca0, B0, lb0, cb0, rfl, R1⟩, R2⟩); have d0 := KW.out.cell 0; have d1 := KW.out.cell 1; have d2 := KW.out.cell 2; have d3 := KW.out.cell 3; have f0 := KW.out.frozen 0; have f1 := KW.out.frozen 1; have f2 := KW.out.frozen 2; have f3 := KW.out.frozen 3; simp at d0 d1 d2 d3; clear R1 R2 HB)
  refine bodyPost_ret (v := .agg #[.int .i64 ((5 : Nat) : Int), .int .i64 e0, .slice A0 la0 ca0, .slice B0 lb0 cb0]) ?_ rfl ⟨_, rfl, ⟨5, ?_⟩, ?_⟩
  · exact results_cell_row Try.results86 _ _ w.heap.size 27 _ (0, 0) _ rfl (store4_blk KW.out) Try.underlying27 rfl (by kernel_rfl)
  · exact (FW.out.store hw).lower (Nat.le_of_lt hw)
  · exact store4_below BW.out (Nat.le_refl _)

end Go.Proofs.Ytahdkdpliphcnaa



/- The drawing side: l1Known, a ring by a number. -/
namespace Go.Proofs.Ytahdkdpliphcnaa
open Go.RowKit

theorem l1Known_any (k : Nat) (w : World) :
    Calls Try.prog 86 #[.int .i64 k] w fun e w' => ∃ v, e = .returned v ∧ FitOut w.heap.size w' v ∧ Below w.heap.size w w' := by
  have h0 : (0 : Int) ≤ k := Int.natCast_nonneg _
  have : (k : Int) % 12 = 0 ∨ (k : Int) % 12 = 1 ∨ (k : Int) % 12 = 2 ∨ (k : Int) % 12 = 3 ∨ (k : Int) % 12 = 4 ∨ (k : Int) % 12 = 5 ∨ (k : Int) % 12 = 6 ∨ (k : Int) % 12 = 7 ∨ (k : Int) % 12 = 8 ∨ (k : Int) % 12 = 9 ∨ (k : Int) % 12 = 10 ∨ (k : Int) % 12 = 11 := by omega
  rcases this with h | h | h | h | h | h | h | h | h | h | h | h
  · exact l1Known_0 k w h0 h
  · exact l1Known_1 k w h0 h
  · exact l1Known_2 k w h0 h
  · exact l1Known_3 k w h0 h
  · exact l1Known_4 k w h0 h
  · exact l1Known_5 k w h0 h
  · exact l1Known_6 k w h0 h
  · exact l1Known_7 k w h0 h
  · exact l1Known_8 k w h0 h
  · exact l1Known_9 k w h0 h
  · exact l1Known_10 k w h0 h
  · exact l1Known_11 k w h0 h

end Go.Proofs.Ytahdkdpliphcnaa



/- The drawing side: l1Renamed. -/
namespace Go.Proofs.Ytahdkdpliphcnaa
open Go.RowKit

end Go.Proofs.Ytahdkdpliphcnaa

