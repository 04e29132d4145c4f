/- Texts of this seat in one: V6 V7 V8 V9 W0 W1. -/
import Derived.Test.YtlcpbdbdiahmjaaMD
import Derived.Test.YtlcpbdbdiahmjaaMC
import Derived.Test.YtlcpbdbdiahmjaaMM

/- The drawing side: l1Swapped; rings that fit; l1Known. -/
namespace Go.Proofs.Ytlcpbdbdiahmjaa
open Go.RowKit

set_option maxRecDepth 100000 in
theorem l1Swapped_any (a x y : Int) (w : World) : Calls Try.prog 134 #[.int .i64 a, .int .i64 x, .int .i64 y] w fun e w' => e = .returned (.int .i64 (if a = x then y else if a = y then x else a)) ∧ w = w' := by
  by_cases h1 : a = x
  · have t1 : (a == x) = true := by simp [h1]
    rw [if_pos h1]
    go_enter Try.func134, Try.ntmps134
    go_wp2
    go_ret
    exact ⟨rfl, rfl⟩
  · have t1 : (a == x) = false := by simp [h1]
    rw [if_neg h1]
    by_cases h2 : a = y
    · have t2 : (a == y) = true := by simp [h2]
      rw [if_pos h2]
      go_enter Try.func134, Try.ntmps134
      go_wp2
      go_ret
      exact ⟨rfl, rfl⟩
    · have t2 : (a == y) = false := by simp [h2]
      rw [if_neg h2]
      go_enter Try.func134, Try.ntmps134
      go_wp2
      go_ret
      exact ⟨rfl, rfl⟩

/-- A ring of some size that a call hands out, whose tables fit. -/
def FitS (m D : Nat) (w : World) (v : Value) : Prop := ∃ (e : Nat) (X Y : List Int), RingOut D w v m e X Y ∧ fitsB m e X Y = true
def FitOut (D : Nat) (w : World) (v : Value) : Prop := ∃ m, FitS m D w v
theorem FitS.next {m D : Nat} {w w' : World} {v : Value} (h : FitS m D w v) (hb : Below w.heap.size w w') : FitS m D w' v := by
  obtain ⟨e, X, Y, h1, h2⟩ := h
  exact ⟨e, X, Y, h1.next hb, h2⟩
theorem FitS.lower {m D D' : Nat} {w : World} {v : Value} (h : FitS m D w v) (hD : D' ≤ D) : FitS m D' w v := by
  obtain ⟨e, X, Y, h1, h2⟩ := h
  exact ⟨e, X, Y, h1.lower hD, h2⟩
theorem FitS.store {m D b : Nat} {w : World} {v v0 v1 v2 v3 : Value} (h : FitS m D w v) (hb : b < D) : FitS m D (store4 w b v0 v1 v2 v3) v := by
  obtain ⟨e, X, Y, h1, h2⟩ := h
  exact ⟨e, X, Y, store4_out h1 hb, h2⟩
theorem fits_of {m e : Nat} {X Y : List Int} (h1 : 1 ≤ m) (h2 : m ≤ 16) (h3 : e < m) (h4 : X.length = m * m) (h5 : Y.length = m * m) (h6 : InR m X) (h7 : InR m Y) : fitsB m e X Y = true :=
  fitsB_iff.2 ⟨by omega, by omega, ⟨by omega, by omega⟩, by rw [h4]; simp, by rw [h5]; simp, h6, h7⟩
theorem fit_new {D m e : Nat} {w : World} {v : Value} {X Y : List Int} (h : NewRing D w v m e (m * m) X Y) (h1 : 1 ≤ m) (h2 : m ≤ 16) (h3 : e < m) (h4 : X.length = m * m) (h5 : Y.length = m * m) (h6 : InR m X) (h7 : InR m Y) : FitS m D w v :=
  ⟨e, X, Y, h.out (sqN h2) h4 h5, fits_of h1 h2 h3 h4 h5 h6 h7⟩
/-- Where its tables lie. -/
theorem FitS.at_ {m D : Nat} {w : World} {v : Value} (h : FitS m D w v) : ∃ (e b1 o1 la ca b2 o2 lb cb : Nat) (S P : Nat → Nat), v = .agg #[.int .i64 m, .int .i64 e, .slice (some ⟨b1, o1, none⟩) la ca, .slice (some ⟨b2, o2, none⟩) lb cb] ∧ RingAt w m e b1 o1 la ca b2 o2 lb cb S P ∧ D ≤ b1 ∧ D ≤ b2 := by
  obtain ⟨e, X, Y, ⟨A, la, ca, B, lb, cb, rfl, h1, h2, _, _, _, _, h3, h4⟩, hf⟩ := h
  obtain ⟨m', e', em, ee, hm, hm', he, hX, hY, tX, tY⟩ := fits_data hf
  have em' : m = m' := by omega
  have ee' : e = e' := by omega
  subst em' ee'
  have hp : 0 < m * m := Nat.mul_pos hm hm
  have lX : la = m * m := by rw [← hX, ← h1.1]
  have lY : lb = m * m := by rw [← hY, ← h2.1]
  obtain ⟨b1, o1, rfl, t1⟩ := tab_of_ints h1.ints hm hX tX
  obtain ⟨b2, o2, rfl, t2⟩ := tab_of_ints h2.ints hm hY tY
  obtain ⟨g1, f1, e1, d1, _⟩ := h1.2 (by omega)
  obtain ⟨g2, f2, e2, d2, _⟩ := h2.2 (by omega)
  injection e1 with e1
  injection e1 with e1 _
  injection e2 with e2
  injection e2 with e2 _
  subst e1 e2
  exact ⟨e, _, _, la, ca, _, _, lb, cb, _, _, rfl, ⟨hm, hm', he, lX, lY, h3, h4, t1, t2⟩, d1, d2⟩
theorem addZ_in {m k : Nat} (hm : 1 ≤ m) : InR m (addZ m k) := InR_of fun x hx => by
  simp only [addZ, List.mem_map, List.mem_range] at hx
  obtain ⟨j, _, rfl⟩ := hx
  have : (j / m + j % m) % m < m := Nat.mod_lt _ (by omega)
  omega
theorem mulZ_in {m k : Nat} (hm : 1 ≤ m) : InR m (mulZ m k) := InR_of fun x hx => by
  simp only [mulZ, List.mem_map, List.mem_range] at hx
  obtain ⟨j, _, rfl⟩ := hx
  have : j / m * (j % m) % m < m := Nat.mod_lt _ (by omega)
  omega
theorem fit_int (m : Nat) (x : Int) (hx : x = m) (hm : 1 ≤ m) (hm' : m ≤ 16) (w : World) : Calls Try.prog 131 #[.int .i64 x] w fun e w' => ∃ v, e = .returned v ∧ FitS m w.heap.size w' v ∧ Below w.heap.size w w' := by
  subst hx
  refine (l1Integers_any m hm hm' w).mono ?_
  rintro e w' ⟨v, rfl, hn, hb⟩
  exact ⟨v, rfl, fit_new hn hm hm' (Nat.mod_lt _ hm) (by simp [addZ]) (by simp [mulZ]) (addZ_in hm) (mulZ_in hm), hb⟩
theorem ints_lit {w : World} {l : List Int} {cs : Array Value} {T : TypeId} (h : cs = (l.map (Value.int .i64)).toArray) : Ints (w.alloc (.cells cs T)) (w.alloc (.cells cs T)).heap.size (some ⟨w.heap.size, 0, none⟩) l.length l := by
  subst h
  refine ⟨rfl, fun _ => ⟨w.heap.size, 0, rfl, by simp, fun k x hx => ?_⟩⟩
  rw [(Blk.new w T _).cell]
  simp [hx]
theorem fit_tower (n N : Nat) (x : Int) (l : List Int) (w : World) (A : Option Addr) (c : Nat) (hx : x = n) (hn : 1 ≤ n) (hl : 1 ≤ l.length) (hl' : l.length ≤ 8) (hN : n ^ l.length = N) (hN' : N ≤ 16) (hr : ∀ y ∈ l, 0 ≤ y ∧ y < (n : Int)) (hi : Ints w w.heap.size A l.length l) :
    Calls Try.prog 132 #[.int .i64 x, .slice A l.length c] w fun e w' => ∃ v, e = .returned v ∧ FitS N w.heap.size w' v ∧ Below w.heap.size w w' := by
  subst hx
  refine (l1Tower_any n l.length N A c l w hn hl hN hN' hl' hi (InR_of hr)).mono ?_
  rintro e w' ⟨v, X, Y, rfl, h1, h2, h3, h4, h5, hb⟩
  have hN1 : 1 ≤ N := by rw [← hN]; exact Nat.pow_pos hn
  exact ⟨v, rfl, fit_new h1 hN1 hN' (Nat.mod_lt _ hN1) h2 h3 h4 h5, hb⟩
theorem tabG_in {m k : Nat} {f : Nat → Nat → Nat} (hk : k ≤ m * m) (h : ∀ a b, a < m → b < m → f a b < m) : InR m (tabG m f k) := InR_of fun x hx => by
  simp only [tabG, List.mem_map, List.mem_range] at hx
  obtain ⟨j, hj, rfl⟩ := hx
  obtain ⟨p1, p2⟩ := parts2 (show j < m * m by omega)
  have := h _ _ p1 p2
  omega
theorem pair_lt {x y m q : Nat} (hx : x < m) (hy : y < q) : x * q + y < m * q := by
  have : (x + 1) * q ≤ m * q := Nat.mul_le_mul_right _ hx
  rw [Nat.add_mul, Nat.one_mul] at this
  omega
theorem fit_product (m q D1 D2 : Nat) (v u : Value) (w : World) (h1 : FitS m D1 w v) (h2 : FitS q D2 w u) (hmq : m * q ≤ 16) :
    Calls Try.prog 133 #[v, u] w fun e w' => ∃ v, e = .returned v ∧ FitS (m * q) w.heap.size w' v ∧ Below w.heap.size w w' := by
  obtain ⟨e, b1, o1, la, ca, b2, o2, lb, cb, S, P, rfl, hr, _⟩ := h1.at_
  obtain ⟨f, c1, p1, ka, da, c2, p2, kb, db, T, U, rfl, hs, _⟩ := h2.at_
  refine (l1Product_any m e b1 o1 la ca b2 o2 lb cb S P q f c1 p1 ka da c2 p2 kb db T U w hr hs hmq).mono ?_
  rintro _ w' ⟨v, rfl, hn, hb⟩
  have hp : 1 ≤ m * q := Nat.mul_pos hr.hm hs.hm
  have bound : ∀ (F G : Nat → Nat), (∀ x y, x < m → y < m → F (x * m + y) < m) → (∀ x y, x < q → y < q → G (x * q + y) < q) → ∀ a b, a < m * q → b < m * q → prodF m q F G a b < m * q := by
    intro F G hF hG a b ha hb'
    obtain ⟨x1, x2⟩ := prod_parts hs.hm ha
    obtain ⟨y1, y2⟩ := prod_parts hs.hm hb'
    exact pair_lt (hF _ _ x1 y1) (hG _ _ x2 y2)
  exact ⟨v, rfl, fit_new hn hp hmq (pair_lt hr.he hs.he) tabG_length tabG_length (tabG_in (Nat.le_refl _) (bound S T (fun _ _ h h' => hr.ts.lt h h') (fun _ _ h h' => hs.ts.lt h h'))) (tabG_in (Nat.le_refl _) (bound P U (fun _ _ h h' => hr.tp.lt h h') (fun _ _ h h' => hs.tp.lt h h'))), hb⟩

end Go.Proofs.Ytlcpbdbdiahmjaa



/- The drawing side: l1Known, a ring by a number. -/
namespace Go.Proofs.Ytlcpbdbdiahmjaa
open Go.RowKit

set_option maxHeartbeats 4000000 in
set_option maxRecDepth 100000 in
theorem l1Known_0 (k : Int) (w : World) (hk0 : 0 ≤ k) (hk : k % 12 = 0) :
    Calls Try.prog 124 #[.int .i64 k] w fun e w' => ∃ v, e = .returned v ∧ FitOut w.heap.size w' v ∧ Below w.heap.size w w' := by
  obtain ⟨W, hW⟩ : ∃ W, w.alloc (.cells #[.int .i64 0, .int .i64 0, .slice none 0 0, .slice none 0 0] 25) = W := ⟨_, rfl⟩
  have hw : w.heap.size < W.heap.size := by subst hW; simp
  have K0 := Lib.hid (show Blk W w.heap.size 25 #[.int .i64 0, .int .i64 0, .slice none 0 0, .slice none 0 0] by subst hW; exact Blk.new w _ _)
  have B0 := Lib.hid (show Below w.heap.size w W by subst hW; exact (Below.refl _ _).alloc (Nat.le_refl _) _)
  go_enter Try.func124, Try.ntmps124
  go_upto_region 2 with (fail)
  clear hW
  go_wp2_with (go_at_call 131; refine (fit_int 4 _ rfl (by decide) (by decide) W).mono ?_; rintro _ wz ⟨v, rfl, HF, HB⟩; have KW := Lib.hid (K0.out.next HB); have BW := Lib.hid (B0.out.trans (HB.mono B0.out.size)); obtain ⟨e0, X0, Y0, ⟨A0, la0, ca0, B0, lb0, cb0, rfl, R1⟩, R2⟩ := HF; have FW := Lib.hid (show FitS 4 W.heap.size wz (.agg #[.int .i64 ((4 : Nat) : Int), .int .i64 e0, .slice A0 la0 ca0, .slice B0 lb0 cb0]) from ⟨e0, X0, Y0, ⟨A0, la0, ca0, B0, lb0, cb0, rfl, R1⟩, R2⟩); have d0 := KW.out.cell 0; have d1 := KW.out.cell 1; have d2 := KW.out.cell 2; have d3 := KW.out.cell 3; have f0 := KW.out.frozen 0; have f1 := KW.out.frozen 1; have f2 := KW.out.frozen 2; have f3 := KW.out.frozen 3; simp at d0 d1 d2 d3; clear R1 R2 HB)
  refine bodyPost_ret (v := .agg #[.int .i64 ((4 : Nat) : Int), .int .i64 e0, .slice A0 la0 ca0, .slice B0 lb0 cb0]) ?_ rfl ⟨_, rfl, ⟨4, ?_⟩, ?_⟩
  · exact results_cell_row Try.results124 _ _ w.heap.size 25 _ (0, 0) _ rfl (store4_blk KW.out) Try.underlying25 rfl (by kernel_rfl)
  · exact (FW.out.store hw).lower (Nat.le_of_lt hw)
  · exact store4_below BW.out (Nat.le_refl _)

set_option maxHeartbeats 4000000 in
set_option maxRecDepth 100000 in
theorem l1Known_1 (k : Int) (w : World) (hk0 : 0 ≤ k) (hk : k % 12 = 1) :
    Calls Try.prog 124 #[.int .i64 k] w fun e w' => ∃ v, e = .returned v ∧ FitOut w.heap.size w' v ∧ Below w.heap.size w w' := by
  obtain ⟨W, hW⟩ : ∃ W, w.alloc (.cells #[.int .i64 0, .int .i64 0, .slice none 0 0, .slice none 0 0] 25) = W := ⟨_, rfl⟩
  have hw : w.heap.size < W.heap.size := by subst hW; simp
  have K0 := Lib.hid (show Blk W w.heap.size 25 #[.int .i64 0, .int .i64 0, .slice none 0 0, .slice none 0 0] by subst hW; exact Blk.new w _ _)
  have B0 := Lib.hid (show Below w.heap.size w W by subst hW; exact (Below.refl _ _).alloc (Nat.le_refl _) _)
  go_enter Try.func124, Try.ntmps124
  go_upto_region 2 with (fail)
  clear hW
  go_wp2_with (go_at_call 131; refine (fit_int 6 _ rfl (by decide) (by decide) W).mono ?_; rintro _ wz ⟨v, rfl, HF, HB⟩; have KW := Lib.hid (K0.out.next HB); have BW := Lib.hid (B0.out.trans (HB.mono B0.out.size)); obtain ⟨e0, X0, Y0, ⟨A0, la0, ca0, B0, lb0, cb0, rfl, R1⟩, R2⟩ := HF; have FW := Lib.hid (show FitS 6 W.heap.size wz (.agg #[.int .i64 ((6 : Nat) : Int), .int .i64 e0, .slice A0 la0 ca0, .slice B0 lb0 cb0]) from ⟨e0, X0, Y0, ⟨A0, la0, ca0, B0, lb0, cb0, rfl, R1⟩, R2⟩); have d0 := KW.out.cell 0; have d1 := KW.out.cell 1; have d2 := KW.out.cell 2; have d3 := KW.out.cell 3; have f0 := KW.out.frozen 0; have f1 := KW.out.frozen 1; have f2 := KW.out.frozen 2; have f3 := KW.out.frozen 3; simp at d0 d1 d2 d3; clear R1 R2 HB)
  refine bodyPost_ret (v := .agg #[.int .i64 ((6 : Nat) : Int), .int .i64 e0, .slice A0 la0 ca0, .slice B0 lb0 cb0]) ?_ rfl ⟨_, rfl, ⟨6, ?_⟩, ?_⟩
  · exact results_cell_row Try.results124 _ _ w.heap.size 25 _ (0, 0) _ rfl (store4_blk KW.out) Try.underlying25 rfl (by kernel_rfl)
  · exact (FW.out.store hw).lower (Nat.le_of_lt hw)
  · exact store4_below BW.out (Nat.le_refl _)

set_option maxHeartbeats 4000000 in
set_option maxRecDepth 100000 in
theorem l1Known_2 (k : Int) (w : World) (hk0 : 0 ≤ k) (hk : k % 12 = 2) :
    Calls Try.prog 124 #[.int .i64 k] w fun e w' => ∃ v, e = .returned v ∧ FitOut w.heap.size w' v ∧ Below w.heap.size w w' := by
  obtain ⟨W, hW⟩ : ∃ W, w.alloc (.cells #[.int .i64 0, .int .i64 0, .slice none 0 0, .slice none 0 0] 25) = W := ⟨_, rfl⟩
  have hw : w.heap.size < W.heap.size := by subst hW; simp
  have K0 := Lib.hid (show Blk W w.heap.size 25 #[.int .i64 0, .int .i64 0, .slice none 0 0, .slice none 0 0] by subst hW; exact Blk.new w _ _)
  have B0 := Lib.hid (show Below w.heap.size w W by subst hW; exact (Below.refl _ _).alloc (Nat.le_refl _) _)
  go_enter Try.func124, Try.ntmps124
  go_upto_region 2 with (fail)
  clear hW
  have IL := Lib.hid (ints_lit (w := W) (l := [1, 1]) (cs := #[.int .i64 1, .int .i64 1]) (T := 3) rfl)
  have BL := Lib.hid ((Below.refl W.heap.size W).alloc (Nat.le_refl _) (.cells #[.int .i64 1, .int .i64 1] 3))
  go_wp2_with (go_at_call 132; refine (fit_tower 2 4 _ [1, 1] _ _ _ rfl (by decide) (by decide) (by decide) (by decide) (by decide) (by decide) IL.out).mono ?_; rintro _ wz ⟨v, rfl, HF, HB⟩; have HF := HF.lower BL.out.size; have HB := BL.out.trans (HB.mono BL.out.size); have KW := Lib.hid (K0.out.next HB); have BW := Lib.hid (B0.out.trans (HB.mono B0.out.size)); obtain ⟨e0, X0, Y0, ⟨A0, la0, ca0, B0, lb0, cb0, rfl, R1⟩, R2⟩ := HF; have FW := Lib.hid (show FitS 4 W.heap.size wz (.agg #[.int .i64 ((4 : Nat) : Int), .int .i64 e0, .slice A0 la0 ca0, .slice B0 lb0 cb0]) from ⟨e0, X0, Y0, ⟨A0, la0, ca0, B0, lb0, cb0, rfl, R1⟩, R2⟩); have d0 := KW.out.cell 0; have d1 := KW.out.cell 1; have d2 := KW.out.cell 2; have d3 := KW.out.cell 3; have f0 := KW.out.frozen 0; have f1 := KW.out.frozen 1; have f2 := KW.out.frozen 2; have f3 := KW.out.frozen 3; simp at d0 d1 d2 d3; clear R1 R2 HB)
  refine bodyPost_ret (v := .agg #[.int .i64 ((4 : Nat) : Int), .int .i64 e0, .slice A0 la0 ca0, .slice B0 lb0 cb0]) ?_ rfl ⟨_, rfl, ⟨4, ?_⟩, ?_⟩
  · exact results_cell_row Try.results124 _ _ w.heap.size 25 _ (0, 0) _ rfl (store4_blk KW.out) Try.underlying25 rfl (by kernel_rfl)
  · exact (FW.out.store hw).lower (Nat.le_of_lt hw)
  · exact store4_below BW.out (Nat.le_refl _)

set_option maxHeartbeats 4000000 in
set_option maxRecDepth 100000 in
theorem l1Known_3 (k : Int) (w : World) (hk0 : 0 ≤ k) (hk : k % 12 = 3) :
    Calls Try.prog 124 #[.int .i64 k] w fun e w' => ∃ v, e = .returned v ∧ FitOut w.heap.size w' v ∧ Below w.heap.size w w' := by
  obtain ⟨W, hW⟩ : ∃ W, w.alloc (.cells #[.int .i64 0, .int .i64 0, .slice none 0 0, .slice none 0 0] 25) = W := ⟨_, rfl⟩
  have hw : w.heap.size < W.heap.size := by subst hW; simp
  have K0 := Lib.hid (show Blk W w.heap.size 25 #[.int .i64 0, .int .i64 0, .slice none 0 0, .slice none 0 0] by subst hW; exact Blk.new w _ _)
  have B0 := Lib.hid (show Below w.heap.size w W by subst hW; exact (Below.refl _ _).alloc (Nat.le_refl _) _)
  go_enter Try.func124, Try.ntmps124
  go_upto_region 2 with (fail)
  clear hW
  have IL := Lib.hid (ints_lit (w := W) (l := [0, 0]) (cs := #[.int .i64 0, .int .i64 0]) (T := 3) rfl)
  have BL := Lib.hid ((Below.refl W.heap.size W).alloc (Nat.le_refl _) (.cells #[.int .i64 0, .int .i64 0] 3))
  go_wp2_with (go_at_call 132; refine (fit_tower 2 4 _ [0, 0] _ _ _ rfl (by decide) (by decide) (by decide) (by decide) (by decide) (by decide) IL.out).mono ?_; rintro _ wz ⟨v, rfl, HF, HB⟩; have HF := HF.lower BL.out.size; have HB := BL.out.trans (HB.mono BL.out.size); have KW := Lib.hid (K0.out.next HB); have BW := Lib.hid (B0.out.trans (HB.mono B0.out.size)); obtain ⟨e0, X0, Y0, ⟨A0, la0, ca0, B0, lb0, cb0, rfl, R1⟩, R2⟩ := HF; have FW := Lib.hid (show FitS 4 W.heap.size wz (.agg #[.int .i64 ((4 : Nat) : Int), .int .i64 e0, .slice A0 la0 ca0, .slice B0 lb0 cb0]) from ⟨e0, X0, Y0, ⟨A0, la0, ca0, B0, lb0, cb0, rfl, R1⟩, R2⟩); have d0 := KW.out.cell 0; have d1 := KW.out.cell 1; have d2 := KW.out.cell 2; have d3 := KW.out.cell 3; have f0 := KW.out.frozen 0; have f1 := KW.out.frozen 1; have f2 := KW.out.frozen 2; have f3 := KW.out.frozen 3; simp at d0 d1 d2 d3; clear R1 R2 HB)
  refine bodyPost_ret (v := .agg #[.int .i64 ((4 : Nat) : Int), .int .i64 e0, .slice A0 la0 ca0, .slice B0 lb0 cb0]) ?_ rfl ⟨_, rfl, ⟨4, ?_⟩, ?_⟩
  · exact results_cell_row Try.results124 _ _ w.heap.size 25 _ (0, 0) _ rfl (store4_blk KW.out) Try.underlying25 rfl (by kernel_rfl)
  · exact (FW.out.store hw).lower (Nat.le_of_lt hw)
  · exact store4_below BW.out (Nat.le_refl _)

set_option maxHeartbeats 4000000 in
set_option maxRecDepth 100000 in
theorem l1Known_4 (k : Int) (w : World) (hk0 : 0 ≤ k) (hk : k % 12 = 4) :
    Calls Try.prog 124 #[.int .i64 k] w fun e w' => ∃ v, e = .returned v ∧ FitOut w.heap.size w' v ∧ Below w.heap.size w w' := by
  obtain ⟨W, hW⟩ : ∃ W, w.alloc (.cells #[.int .i64 0, .int .i64 0, .slice none 0 0, .slice none 0 0] 25) = W := ⟨_, rfl⟩
  have hw : w.heap.size < W.heap.size := by subst hW; simp
  have K0 := Lib.hid (show Blk W w.heap.size 25 #[.int .i64 0, .int .i64 0, .slice none 0 0, .slice none 0 0] by subst hW; exact Blk.new w _ _)
  have B0 := Lib.hid (show Below w.heap.size w W by subst hW; exact (Below.refl _ _).alloc (Nat.le_refl _) _)
  go_enter Try.func124, Try.ntmps124
  go_upto_region 2 with (fail)
  clear hW
  have I1 := fun x => fit_int 2 2 rfl (by decide) (by decide) x
  have I2 := fun x => fit_int 2 2 rfl (by decide) (by decide) x
  go_wp2_with (first | (go_at_call 131; with_reducible refine (I1 W).mono ?_; rintro _ wx ⟨v1, rfl, HF1, HB1⟩; have HF1 := Lib.hid HF1; have HB1 := Lib.hid HB1) | (go_at_call 131; with_reducible refine (I2 wx).mono ?_; rintro _ wy ⟨v2, rfl, HF2, HB2⟩; have HF2 := Lib.hid HF2; have HB2 := Lib.hid HB2) | (go_at_call 133; refine (fit_product 2 2 _ _ v1 v2 wy (HF1.out.next HB2.out) HF2.out (by decide)).mono ?_; rintro _ wz ⟨v, rfl, HF, HB⟩; have b1 := HB1.out.trans (HB2.out.mono HB1.out.size); have HF := HF.lower b1.size; have HB := b1.trans (HB.mono b1.size); have HF : FitS 4 W.heap.size wz v := HF; clear b1; have KW := Lib.hid (K0.out.next HB); have BW := Lib.hid (B0.out.trans (HB.mono B0.out.size)); obtain ⟨e0, X0, Y0, ⟨A0, la0, ca0, B0, lb0, cb0, rfl, R1⟩, R2⟩ := HF; have FW := Lib.hid (show FitS 4 W.heap.size wz (.agg #[.int .i64 ((4 : Nat) : Int), .int .i64 e0, .slice A0 la0 ca0, .slice B0 lb0 cb0]) from ⟨e0, X0, Y0, ⟨A0, la0, ca0, B0, lb0, cb0, rfl, R1⟩, R2⟩); have d0 := KW.out.cell 0; have d1 := KW.out.cell 1; have d2 := KW.out.cell 2; have d3 := KW.out.cell 3; have f0 := KW.out.frozen 0; have f1 := KW.out.frozen 1; have f2 := KW.out.frozen 2; have f3 := KW.out.frozen 3; simp at d0 d1 d2 d3; clear R1 R2 HB))
  refine bodyPost_ret (v := .agg #[.int .i64 ((4 : Nat) : Int), .int .i64 e0, .slice A0 la0 ca0, .slice B0 lb0 cb0]) ?_ rfl ⟨_, rfl, ⟨4, ?_⟩, ?_⟩
  · exact results_cell_row Try.results124 _ _ w.heap.size 25 _ (0, 0) _ rfl (store4_blk KW.out) Try.underlying25 rfl (by kernel_rfl)
  · exact (FW.out.store hw).lower (Nat.le_of_lt hw)
  · exact store4_below BW.out (Nat.le_refl _)

set_option maxHeartbeats 4000000 in
set_option maxRecDepth 100000 in
theorem l1Known_5 (k : Int) (w : World) (hk0 : 0 ≤ k) (hk : k % 12 = 5) :
    Calls Try.prog 124 #[.int .i64 k] w fun e w' => ∃ v, e = .returned v ∧ FitOut w.heap.size w' v ∧ Below w.heap.size w w' := by
  obtain ⟨W, hW⟩ : ∃ W, w.alloc (.cells #[.int .i64 0, .int .i64 0, .slice none 0 0, .slice none 0 0] 25) = W := ⟨_, rfl⟩
  have hw : w.heap.size < W.heap.size := by subst hW; simp
  have K0 := Lib.hid (show Blk W w.heap.size 25 #[.int .i64 0, .int .i64 0, .slice none 0 0, .slice none 0 0] by subst hW; exact Blk.new w _ _)
  have B0 := Lib.hid (show Below w.heap.size w W by subst hW; exact (Below.refl _ _).alloc (Nat.le_refl _) _)
  go_enter Try.func124, Try.ntmps124
  go_upto_region 2 with (fail)
  clear hW
  go_wp2_with (go_at_call 131; refine (fit_int 9 _ rfl (by decide) (by decide) W).mono ?_; rintro _ wz ⟨v, rfl, HF, HB⟩; have KW := Lib.hid (K0.out.next HB); have BW := Lib.hid (B0.out.trans (HB.mono B0.out.size)); obtain ⟨e0, X0, Y0, ⟨A0, la0, ca0, B0, lb0, cb0, rfl, R1⟩, R2⟩ := HF; have FW := Lib.hid (show FitS 9 W.heap.size wz (.agg #[.int .i64 ((9 : Nat) : Int), .int .i64 e0, .slice A0 la0 ca0, .slice B0 lb0 cb0]) from ⟨e0, X0, Y0, ⟨A0, la0, ca0, B0, lb0, cb0, rfl, R1⟩, R2⟩); have d0 := KW.out.cell 0; have d1 := KW.out.cell 1; have d2 := KW.out.cell 2; have d3 := KW.out.cell 3; have f0 := KW.out.frozen 0; have f1 := KW.out.frozen 1; have f2 := KW.out.frozen 2; have f3 := KW.out.frozen 3; simp at d0 d1 d2 d3; clear R1 R2 HB)
  refine bodyPost_ret (v := .agg #[.int .i64 ((9 : Nat) : Int), .int .i64 e0, .slice A0 la0 ca0, .slice B0 lb0 cb0]) ?_ rfl ⟨_, rfl, ⟨9, ?_⟩, ?_⟩
  · exact results_cell_row Try.results124 _ _ w.heap.size 25 _ (0, 0) _ rfl (store4_blk KW.out) Try.underlying25 rfl (by kernel_rfl)
  · exact (FW.out.store hw).lower (Nat.le_of_lt hw)
  · exact store4_below BW.out (Nat.le_refl _)

end Go.Proofs.Ytlcpbdbdiahmjaa



/- The drawing side: l1Known, a ring by a number. -/
namespace Go.Proofs.Ytlcpbdbdiahmjaa
open Go.RowKit

set_option maxHeartbeats 4000000 in
set_option maxRecDepth 100000 in
theorem l1Known_6 (k : Int) (w : World) (hk0 : 0 ≤ k) (hk : k % 12 = 6) :
    Calls Try.prog 124 #[.int .i64 k] w fun e w' => ∃ v, e = .returned v ∧ FitOut w.heap.size w' v ∧ Below w.heap.size w w' := by
  obtain ⟨W, hW⟩ : ∃ W, w.alloc (.cells #[.int .i64 0, .int .i64 0, .slice none 0 0, .slice none 0 0] 25) = W := ⟨_, rfl⟩
  have hw : w.heap.size < W.heap.size := by subst hW; simp
  have K0 := Lib.hid (show Blk W w.heap.size 25 #[.int .i64 0, .int .i64 0, .slice none 0 0, .slice none 0 0] by subst hW; exact Blk.new w _ _)
  have B0 := Lib.hid (show Below w.heap.size w W by subst hW; exact (Below.refl _ _).alloc (Nat.le_refl _) _)
  go_enter Try.func124, Try.ntmps124
  go_upto_region 2 with (fail)
  clear hW
  have IL := Lib.hid (ints_lit (w := W) (l := [1, 0]) (cs := #[.int .i64 1, .int .i64 0]) (T := 3) rfl)
  have BL := Lib.hid ((Below.refl W.heap.size W).alloc (Nat.le_refl _) (.cells #[.int .i64 1, .int .i64 0] 3))
  go_wp2_with (go_at_call 132; refine (fit_tower 3 9 _ [1, 0] _ _ _ rfl (by decide) (by decide) (by decide) (by decide) (by decide) (by decide) IL.out).mono ?_; rintro _ wz ⟨v, rfl, HF, HB⟩; have HF := HF.lower BL.out.size; have HB := BL.out.trans (HB.mono BL.out.size); have KW := Lib.hid (K0.out.next HB); have BW := Lib.hid (B0.out.trans (HB.mono B0.out.size)); obtain ⟨e0, X0, Y0, ⟨A0, la0, ca0, B0, lb0, cb0, rfl, R1⟩, R2⟩ := HF; have FW := Lib.hid (show FitS 9 W.heap.size wz (.agg #[.int .i64 ((9 : Nat) : Int), .int .i64 e0, .slice A0 la0 ca0, .slice B0 lb0 cb0]) from ⟨e0, X0, Y0, ⟨A0, la0, ca0, B0, lb0, cb0, rfl, R1⟩, R2⟩); have d0 := KW.out.cell 0; have d1 := KW.out.cell 1; have d2 := KW.out.cell 2; have d3 := KW.out.cell 3; have f0 := KW.out.frozen 0; have f1 := KW.out.frozen 1; have f2 := KW.out.frozen 2; have f3 := KW.out.frozen 3; simp at d0 d1 d2 d3; clear R1 R2 HB)
  refine bodyPost_ret (v := .agg #[.int .i64 ((9 : Nat) : Int), .int .i64 e0, .slice A0 la0 ca0, .slice B0 lb0 cb0]) ?_ rfl ⟨_, rfl, ⟨9, ?_⟩, ?_⟩
  · exact results_cell_row Try.results124 _ _ w.heap.size 25 _ (0, 0) _ rfl (store4_blk KW.out) Try.underlying25 rfl (by kernel_rfl)
  · exact (FW.out.store hw).lower (Nat.le_of_lt hw)
  · exact store4_below BW.out (Nat.le_refl _)

set_option maxHeartbeats 4000000 in
set_option maxRecDepth 100000 in
theorem l1Known_7 (k : Int) (w : World) (hk0 : 0 ≤ k) (hk : k % 12 = 7) :
    Calls Try.prog 124 #[.int .i64 k] w fun e w' => ∃ v, e = .returned v ∧ FitOut w.heap.size w' v ∧ Below w.heap.size w w' := by
  obtain ⟨W, hW⟩ : ∃ W, w.alloc (.cells #[.int .i64 0, .int .i64 0, .slice none 0 0, .slice none 0 0] 25) = W := ⟨_, rfl⟩
  have hw : w.heap.size < W.heap.size := by subst hW; simp
  have K0 := Lib.hid (show Blk W w.heap.size 25 #[.int .i64 0, .int .i64 0, .slice none 0 0, .slice none 0 0] by subst hW; exact Blk.new w _ _)
  have B0 := Lib.hid (show Below w.heap.size w W by subst hW; exact (Below.refl _ _).alloc (Nat.le_refl _) _)
  go_enter Try.func124, Try.ntmps124
  go_upto_region 2 with (fail)
  clear hW
  have I1 := fun x => fit_int 2 2 rfl (by decide) (by decide) x
  have I2 := fun x => fit_int 4 4 rfl (by decide) (by decide) x
  go_wp2_with (first | (go_at_call 131; with_reducible refine (I1 W).mono ?_; rintro _ wx ⟨v1, rfl, HF1, HB1⟩; have HF1 := Lib.hid HF1; have HB1 := Lib.hid HB1) | (go_at_call 131; with_reducible refine (I2 wx).mono ?_; rintro _ wy ⟨v2, rfl, HF2, HB2⟩; have HF2 := Lib.hid HF2; have HB2 := Lib.hid HB2) | (go_at_call 133; refine (fit_product 2 4 _ _ v1 v2 wy (HF1.out.next HB2.out) HF2.out (by decide)).mono ?_; rintro _ wz ⟨v, rfl, HF, HB⟩; have b1 := HB1.out.trans (HB2.out.mono HB1.out.size); have HF := HF.lower b1.size; have HB := b1.trans (HB.mono b1.size); have HF : FitS 8 W.heap.size wz v := HF; clear b1; have KW := Lib.hid (K0.out.next HB); have BW := Lib.hid (B0.out.trans (HB.mono B0.out.size)); obtain ⟨e0, X0, Y0, ⟨A0, la0, ca0, B0, lb0, cb0, rfl, R1⟩, R2⟩ := HF; have FW := Lib.hid (show FitS 8 W.heap.size wz (.agg #[.int .i64 ((8 : Nat) : Int), .int .i64 e0, .slice A0 la0 ca0, .slice B0 lb0 cb0]) from ⟨e0, X0, Y0, ⟨A0, la0, ca0, B0, lb0, cb0, rfl, R1⟩, R2⟩); have d0 := KW.out.cell 0; have d1 := KW.out.cell 1; have d2 := KW.out.cell 2; have d3 := KW.out.cell 3; have f0 := KW.out.frozen 0; have f1 := KW.out.frozen 1; have f2 := KW.out.frozen 2; have f3 := KW.out.frozen 3; simp at d0 d1 d2 d3; clear R1 R2 HB))
  refine bodyPost_ret (v := .agg #[.int .i64 ((8 : Nat) : Int), .int .i64 e0, .slice A0 la0 ca0, .slice B0 lb0 cb0]) ?_ rfl ⟨_, rfl, ⟨8, ?_⟩, ?_⟩
  · exact results_cell_row Try.results124 _ _ w.heap.size 25 _ (0, 0) _ rfl (store4_blk KW.out) Try.underlying25 rfl (by kernel_rfl)
  · exact (FW.out.store hw).lower (Nat.le_of_lt hw)
  · exact store4_below BW.out (Nat.le_refl _)

set_option maxHeartbeats 4000000 in
set_option maxRecDepth 100000 in
theorem l1Known_8 (k : Int) (w : World) (hk0 : 0 ≤ k) (hk : k % 12 = 8) :
    Calls Try.prog 124 #[.int .i64 k] w fun e w' => ∃ v, e = .returned v ∧ FitOut w.heap.size w' v ∧ Below w.heap.size w w' := by
  obtain ⟨W, hW⟩ : ∃ W, w.alloc (.cells #[.int .i64 0, .int .i64 0, .slice none 0 0, .slice none 0 0] 25) = W := ⟨_, rfl⟩
  have hw : w.heap.size < W.heap.size := by subst hW; simp
  have K0 := Lib.hid (show Blk W w.heap.size 25 #[.int .i64 0, .int .i64 0, .slice none 0 0, .slice none 0 0] by subst hW; exact Blk.new w _ _)
  have B0 := Lib.hid (show Below w.heap.size w W by subst hW; exact (Below.refl _ _).alloc (Nat.le_refl _) _)
  go_enter Try.func124, Try.ntmps124
  go_upto_region 2 with (fail)
  clear hW
  go_wp2_with (go_at_call 131; refine (fit_int 12 _ rfl (by decide) (by decide) W).mono ?_; rintro _ wz ⟨v, rfl, HF, HB⟩; have KW := Lib.hid (K0.out.next HB); have BW := Lib.hid (B0.out.trans (HB.mono B0.out.size)); obtain ⟨e0, X0, Y0, ⟨A0, la0, ca0, B0, lb0, cb0, rfl, R1⟩, R2⟩ := HF; have FW := Lib.hid (show FitS 12 W.heap.size wz (.agg #[.int .i64 ((12 : Nat) : Int), .int .i64 e0, .slice A0 la0 ca0, .slice B0 lb0 cb0]) from ⟨e0, X0, Y0, ⟨A0, la0, ca0, B0, lb0, cb0, rfl, R1⟩, R2⟩); have d0 := KW.out.cell 0; have d1 := KW.out.cell 1; have d2 := KW.out.cell 2; have d3 := KW.out.cell 3; have f0 := KW.out.frozen 0; have f1 := KW.out.frozen 1; have f2 := KW.out.frozen 2; have f3 := KW.out.frozen 3; simp at d0 d1 d2 d3; clear R1 R2 HB)
  refine bodyPost_ret (v := .agg #[.int .i64 ((12 : Nat) : Int), .int .i64 e0, .slice A0 la0 ca0, .slice B0 lb0 cb0]) ?_ rfl ⟨_, rfl, ⟨12, ?_⟩, ?_⟩
  · exact results_cell_row Try.results124 _ _ w.heap.size 25 _ (0, 0) _ rfl (store4_blk KW.out) Try.underlying25 rfl (by kernel_rfl)
  · exact (FW.out.store hw).lower (Nat.le_of_lt hw)
  · exact store4_below BW.out (Nat.le_refl _)

end Go.Proofs.Ytlcpbdbdiahmjaa



/- The drawing side: l1Known, a ring by a number. -/
namespace Go.Proofs.Ytlcpbdbdiahmjaa
open Go.RowKit

set_option maxHeartbeats 4000000 in
set_option maxRecDepth 100000 in
theorem l1Known_9 (k : Int) (w : World) (hk0 : 0 ≤ k) (hk : k % 12 = 9) :
    Calls Try.prog 124 #[.int .i64 k] w fun e w' => ∃ v, e = .returned v ∧ FitOut w.heap.size w' v ∧ Below w.heap.size w w' := by
  obtain ⟨W, hW⟩ : ∃ W, w.alloc (.cells #[.int .i64 0, .int .i64 0, .slice none 0 0, .slice none 0 0] 25) = W := ⟨_, rfl⟩
  have hw : w.heap.size < W.heap.size := by subst hW; simp
  have K0 := Lib.hid (show Blk W w.heap.size 25 #[.int .i64 0, .int .i64 0, .slice none 0 0, .slice none 0 0] by subst hW; exact Blk.new w _ _)
  have B0 := Lib.hid (show Below w.heap.size w W by subst hW; exact (Below.refl _ _).alloc (Nat.le_refl _) _)
  go_enter Try.func124, Try.ntmps124
  go_upto_region 2 with (fail)
  clear hW
  have IL := Lib.hid (ints_lit (w := W) (l := [0, 0, 0]) (cs := #[.int .i64 0, .int .i64 0, .int .i64 0]) (T := 3) rfl)
  have BL := Lib.hid ((Below.refl W.heap.size W).alloc (Nat.le_refl _) (.cells #[.int .i64 0, .int .i64 0, .int .i64 0] 3))
  go_wp2_with (go_at_call 132; refine (fit_tower 2 8 _ [0, 0, 0] _ _ _ rfl (by decide) (by decide) (by decide) (by decide) (by decide) (by decide) IL.out).mono ?_; rintro _ wz ⟨v, rfl, HF, HB⟩; have HF := HF.lower BL.out.size; have HB := BL.out.trans (HB.mono BL.out.size); have KW := Lib.hid (K0.out.next HB); have BW := Lib.hid (B0.out.trans (HB.mono B0.out.size)); obtain ⟨e0, X0, Y0, ⟨A0, la0, ca0, B0, lb0, cb0, rfl, R1⟩, R2⟩ := HF; have FW := Lib.hid (show FitS 8 W.heap.size wz (.agg #[.int .i64 ((8 : Nat) : Int), .int .i64 e0, .slice A0 la0 ca0, .slice B0 lb0 cb0]) from ⟨e0, X0, Y0, ⟨A0, la0, ca0, B0, lb0, cb0, rfl, R1⟩, R2⟩); have d0 := KW.out.cell 0; have d1 := KW.out.cell 1; have d2 := KW.out.cell 2; have d3 := KW.out.cell 3; have f0 := KW.out.frozen 0; have f1 := KW.out.frozen 1; have f2 := KW.out.frozen 2; have f3 := KW.out.frozen 3; simp at d0 d1 d2 d3; clear R1 R2 HB)
  refine bodyPost_ret (v := .agg #[.int .i64 ((8 : Nat) : Int), .int .i64 e0, .slice A0 la0 ca0, .slice B0 lb0 cb0]) ?_ rfl ⟨_, rfl, ⟨8, ?_⟩, ?_⟩
  · exact results_cell_row Try.results124 _ _ w.heap.size 25 _ (0, 0) _ rfl (store4_blk KW.out) Try.underlying25 rfl (by kernel_rfl)
  · exact (FW.out.store hw).lower (Nat.le_of_lt hw)
  · exact store4_below BW.out (Nat.le_refl _)

set_option maxHeartbeats 4000000 in
set_option maxRecDepth 100000 in
theorem l1Known_10 (k : Int) (w : World) (hk0 : 0 ≤ k) (hk : k % 12 = 10) :
    Calls Try.prog 124 #[.int .i64 k] w fun e w' => ∃ v, e = .returned v ∧ FitOut w.heap.size w' v ∧ Below w.heap.size w w' := by
  obtain ⟨W, hW⟩ : ∃ W, w.alloc (.cells #[.int .i64 0, .int .i64 0, .slice none 0 0, .slice none 0 0] 25) = W := ⟨_, rfl⟩
  have hw : w.heap.size < W.heap.size := by subst hW; simp
  have K0 := Lib.hid (show Blk W w.heap.size 25 #[.int .i64 0, .int .i64 0, .slice none 0 0, .slice none 0 0] by subst hW; exact Blk.new w _ _)
  have B0 := Lib.hid (show Below w.heap.size w W by subst hW; exact (Below.refl _ _).alloc (Nat.le_refl _) _)
  go_enter Try.func124, Try.ntmps124
  go_upto_region 2 with (fail)
  clear hW
  go_wp2_with (go_at_call 131; refine (fit_int 1 _ rfl (by decide) (by decide) W).mono ?_; rintro _ wz ⟨v, rfl, HF, HB⟩; have KW := Lib.hid (K0.out.next HB); have BW := Lib.hid (B0.out.trans (HB.mono B0.out.size)); obtain ⟨e0, X0, Y0, ⟨A0, la0, ca0, B0, lb0, cb0, rfl, R1⟩, R2⟩ := HF; have FW := Lib.hid (show FitS 1 W.heap.size wz (.agg #[.int .i64 ((1 : Nat) : Int), .int .i64 e0, .slice A0 la0 ca0, .slice B0 lb0 cb0]) from ⟨e0, X0, Y0, ⟨A0, la0, ca0, B0, lb0, cb0, rfl, R1⟩, R2⟩); have d0 := KW.out.cell 0; have d1 := KW.out.cell 1; have d2 := KW.out.cell 2; have d3 := KW.out.cell 3; have f0 := KW.out.frozen 0; have f1 := KW.out.frozen 1; have f2 := KW.out.frozen 2; have f3 := KW.out.frozen 3; simp at d0 d1 d2 d3; clear R1 R2 HB)
  refine bodyPost_ret (v := .agg #[.int .i64 ((1 : Nat) : Int), .int .i64 e0, .slice A0 la0 ca0, .slice B0 lb0 cb0]) ?_ rfl ⟨_, rfl, ⟨1, ?_⟩, ?_⟩
  · exact results_cell_row Try.results124 _ _ w.heap.size 25 _ (0, 0) _ rfl (store4_blk KW.out) Try.underlying25 rfl (by kernel_rfl)
  · exact (FW.out.store hw).lower (Nat.le_of_lt hw)
  · exact store4_below BW.out (Nat.le_refl _)

set_option maxHeartbeats 4000000 in
set_option maxRecDepth 100000 in
theorem l1Known_11 (k : Int) (w : World) (hk0 : 0 ≤ k) (hk : k % 12 = 11) :
    Calls Try.prog 124 #[.int .i64 k] w fun e w' => ∃ v, e = .returned v ∧ FitOut w.heap.size w' v ∧ Below w.heap.size w w' := by
  obtain ⟨W, hW⟩ : ∃ W, w.alloc (.cells #[.int .i64 0, .int .i64 0, .slice none 0 0, .slice none 0 0] 25) = W := ⟨_, rfl⟩
  have hw : w.heap.size < W.heap.size := by subst hW; simp
  have K0 := Lib.hid (show Blk W w.heap.size 25 #[.int .i64 0, .int .i64 0, .slice none 0 0, .slice none 0 0] by subst hW; exact Blk.new w _ _)
  have B0 := Lib.hid (show Below w.heap.size w W by subst hW; exact (Below.refl _ _).alloc (Nat.le_refl _) _)
  go_enter Try.func124, Try.ntmps124
  go_upto_region 2 with (fail)
  clear hW
  go_wp2_with (go_at_call 131; refine (fit_int 5 _ rfl (by decide) (by decide) W).mono ?_; rintro _ wz ⟨v, rfl, HF, HB⟩; have KW := Lib.hid (K0.out.next HB); have BW := Lib.hid (B0.out.trans (HB.mono B0.out.size)); obtain ⟨e0, X0, Y0, ⟨A0, la0, ca0, B0, lb0, cb0, rfl, R1⟩, R2⟩ := HF; have FW := Lib.hid (show FitS 5 W.heap.size wz (.agg #[.int .i64 ((5 : Nat) : Int), .int .i64 e0, .slice A0 la0 ca0, .slice B0 lb0 cb0]) from ⟨e0, X0, Y0, ⟨A0, la0, ca0, B0, lb0, cb0, rfl, R1⟩, R2⟩); have d0 := KW.out.cell 0; have d1 := KW.out.cell 1; have d2 := KW.out.cell 2; have d3 := KW.out.cell 3; have f0 := KW.out.frozen 0; have f1 := KW.out.frozen 1; have f2 := KW.out.frozen 2; have f3 := KW.out.frozen 3; simp at d0 d1 d2 d3; clear R1 R2 HB)
  refine bodyPost_ret (v := .agg #[.int .i64 ((5 : Nat) : Int), .int .i64 e0, .slice A0 la0 ca0, .slice B0 lb0 cb0]) ?_ rfl ⟨_, rfl, ⟨5, ?_⟩, ?_⟩
  · exact results_cell_row Try.results124 _ _ w.heap.size 25 _ (0, 0) _ rfl (store4_blk KW.out) Try.underlying25 rfl (by kernel_rfl)
  · exact (FW.out.store hw).lower (Nat.le_of_lt hw)
  · exact store4_below BW.out (Nat.le_refl _)

end Go.Proofs.Ytlcpbdbdiahmjaa



/- The drawing side: l1Known, a ring by a number. -/
namespace Go.Proofs.Ytlcpbdbdiahmjaa
open Go.RowKit

theorem l1Known_any (k : Nat) (w : World) :
    Calls Try.prog 124 #[.int .i64 k] w fun e w' => ∃ v, e = .returned v ∧ FitOut w.heap.size w' v ∧ Below w.heap.size w w' := by
  have h0 : (0 : Int) ≤ k := Int.natCast_nonneg _
  have : (k : Int) % 12 = 0 ∨ (k : Int) % 12 = 1 ∨ (k : Int) % 12 = 2 ∨ (k : Int) % 12 = 3 ∨ (k : Int) % 12 = 4 ∨ (k : Int) % 12 = 5 ∨ (k : Int) % 12 = 6 ∨ (k : Int) % 12 = 7 ∨ (k : Int) % 12 = 8 ∨ (k : Int) % 12 = 9 ∨ (k : Int) % 12 = 10 ∨ (k : Int) % 12 = 11 := by omega
  rcases this with h | h | h | h | h | h | h | h | h | h | h | h
  · exact l1Known_0 k w h0 h
  · exact l1Known_1 k w h0 h
  · exact l1Known_2 k w h0 h
  · exact l1Known_3 k w h0 h
  · exact l1Known_4 k w h0 h
  · exact l1Known_5 k w h0 h
  · exact l1Known_6 k w h0 h
  · exact l1Known_7 k w h0 h
  · exact l1Known_8 k w h0 h
  · exact l1Known_9 k w h0 h
  · exact l1Known_10 k w h0 h
  · exact l1Known_11 k w h0 h

end Go.Proofs.Ytlcpbdbdiahmjaa



/- The drawing side: l1Renamed. -/
namespace Go.Proofs.Ytlcpbdbdiahmjaa
open Go.RowKit

def swN (x y a : Nat) : Nat := if a = x then y else if a = y then x else a
theorem swN_lt {m x y a : Nat} (hx : x < m) (hy : y < m) (ha : a < m) : swN x y a < m := by
  unfold swN
  split
  · exact hy
  · split
    · exact hx
    · exact ha
theorem l1Swapped_nat (a x y : Nat) (w : World) : Calls Try.prog 134 #[.int .i64 a, .int .i64 x, .int .i64 y] w fun e w' => e = .returned (.int .i64 (swN x y a)) ∧ Below w.heap.size w w' := by
  refine (l1Swapped_any a x y w).mono ?_
  rintro e w' ⟨rfl, rfl⟩
  refine ⟨?_, Below.refl _ _⟩
  unfold swN
  by_cases h1 : a = x
  · subst h1; simp
  · have h1' : ¬ (a : Int) = x := by omega
    rw [if_neg h1, if_neg h1']
    by_cases h2 : a = y
    · subst h2; simp
    · have h2' : ¬ (a : Int) = y := by omega
      rw [if_neg h2, if_neg h2']

def renPhi (D : Nat) (_ : Nat) (v : Value) (w : World) : Prop := ∃ g, v = .pointer (some ⟨g, 0, none⟩) ∧ D ≤ g ∧ Blk w g 25 #[.int .i64 0, .int .i64 0, .slice none 0 0, .slice none 0 0]
def renSh (_ : Nat) (v : Value) : Prop := ∃ g, v = .pointer (some ⟨g, 0, none⟩)
theorem renPhi_stable {D : Nat} (i : Nat) (v : Value) (w w' : World) (h : renPhi D i v w) (hb : Below w.heap.size w w') : renPhi D i v w' := by
  obtain ⟨g, h1, h2, h3⟩ := h
  exact ⟨g, h1, h2, h3.below hb h3.lt⟩
theorem renSh_of {D : Nat} (i : Nat) (v : Value) (w : World) (h : renPhi D i v w) : renSh i v := by
  obtain ⟨g, h1, _⟩ := h
  exact ⟨g, h1⟩

/-- The tables with two elements changed. -/
def renF (m x y : Nat) (T : Nat → Nat) (a b : Nat) : Nat := swN x y (T (swN x y a * m + swN x y b))

set_option maxHeartbeats 16000000 in
set_option maxRecDepth 100000 in
theorem l1Renamed_any (x y : Nat) (m e b1 o1 la ca b2 o2 lb cb : Nat) (S P : Nat → Nat) (w : World) (hr : RingAt w m e b1 o1 la ca b2 o2 lb cb S P) (hx : x < m) (hy : y < m) :
    Calls Try.prog 125 #[.agg #[.int .i64 m, .int .i64 e, .slice (some ⟨b1, o1, none⟩) la ca, .slice (some ⟨b2, o2, none⟩) lb cb], .int .i64 x, .int .i64 y] w fun e' w' => ∃ v, e' = .returned v ∧ FitS m w.heap.size w' v ∧ Below w.heap.size w w' := by
  obtain ⟨i0, hi, hz0, hz1, hz2⟩ := info_parts int_info
  have hm := hr.hm
  have hm' := hr.hm'
  have he := hr.he
  obtain ⟨s1, s2, s3, s4⟩ := sqI hm'
  have S3 := Lib.hid s3
  clear s3
  go_enter Try.func125, Try.ntmps125
  go_upto_region 1 with (fail)
  obtain ⟨V, hV⟩ : ∃ V, (w.alloc (.cells #[.int .i64 m, .int .i64 e, .slice (some ⟨b1, o1, none⟩) la ca, .slice (some ⟨b2, o2, none⟩) lb cb] 25)).alloc (.cells #[.int .i64 0, .int .i64 0, .slice none 0 0, .slice none 0 0] 25) = V := ⟨_, rfl⟩
  have kR : Blk V w.heap.size 25 #[.int .i64 m, .int .i64 e, .slice (some ⟨b1, o1, none⟩) la ca, .slice (some ⟨b2, o2, none⟩) lb cb] := by subst hV; exact (Blk.new w _ _).alloc _
  have kZ : Blk V (w.heap.size + 1) 25 #[.int .i64 0, .int .i64 0, .slice none 0 0, .slice none 0 0] := by
    subst hV
    have := Blk.new (w.alloc (.cells #[.int .i64 m, .int .i64 e, .slice (some ⟨b1, o1, none⟩) la ca, .slice (some ⟨b2, o2, none⟩) lb cb] 25)) 25 #[.int .i64 0, .int .i64 0, .slice none 0 0, .slice none 0 0]
    rw [World.size_alloc] at this
    exact this
  have bV : Below w.heap.size w V := by subst hV; exact ((Below.refl _ _).alloc (Nat.le_refl _) _).alloc (by simp) _
  have hVs : V.heap.size = w.heap.size + 1 + 1 := by subst hV; simp
  rw [hV]
  clear hV
  have KR := Lib.hid kR
  have KZ := Lib.hid kZ
  have BV := Lib.hid bV
  have RV := Lib.hid (hr.next bV)
  clear kR kZ bV hr
  refine wp_region_makers 9 (fun i => i == 8) (renPhi (w.heap.size + 1 + 1)) renSh (fun _ => .pointer (some ⟨0, 0, none⟩)) probe (by kernel_rfl) (by kernel_rfl) renPhi_stable (fun i v x _ => renSh_of i v x) (fun _ _ => ⟨0, rfl⟩) ?_
  intro W1 hW1 vs hvs
  obtain ⟨bx, ebx⟩ := hvs 8 rfl
  have cW : ∃ x, extC W1 x := ⟨W1, extC_of (Below.refl _ _)⟩
  have big : ∀ x, extC W1 x → w.heap.size + 1 + 1 ≤ x.heap.size := fun x ⟨u, hu⟩ => by rw [hu, ← hVs]; exact Nat.le_trans hW1.size (ext_size W1 u)
  have x0 := (KR.out.below hW1 KR.out.lt).cell 0
  have x1 := (KR.out.below hW1 KR.out.lt).cell 1
  simp at x0 x1
  simp only [List.take_succ_cons, List.take_zero, List.drop_succ_cons, List.drop_zero]
  refine wpV_quiet cW 8 0 _ _ (by decide) (by decide) ?_
  simp only [List.take_succ_cons, List.take_zero, List.drop_succ_cons, List.drop_zero]
  repeat (go_big_quiet_step (first | (go_at_call 134; with_reducible refine calls_ext (l1Swapped_nat _ _ _ _))))
  refine wpQuiet_nil ?_
  refine wpV_make' rfl rfl (fun x hx => makesAt_mono (makes_box rfl x) fun v x' ⟨g, h1, h2, h3⟩ => ⟨g, h1, Nat.le_trans (big x hx) h2, h3⟩) ?_
  rw [ebx]
  go_simp
  refine wpV_nil ?_
  intro w2 hb2 hfacts _
  obtain ⟨g0, q0, hg0, kb⟩ := hfacts 8 (by omega) rfl
  have eg : g0 = bx := by rw [ebx] at q0; simp at q0; exact q0.symm
  subst eg
  have y0 := kb.cell 0
  have y1 := kb.cell 1
  have y2 := kb.cell 2
  have y3 := kb.cell 3
  have f0 := kb.frozen 0
  have f1 := kb.frozen 1
  have f2 := kb.frozen 2
  have f3 := kb.frozen 3
  simp at y0 y1 y2 y3
  go_upto_region 2 with (fail)
  obtain ⟨D, hD⟩ : ∃ D, D = w.heap.size + 1 + 1 := ⟨_, rfl⟩
  obtain ⟨z0, hz⟩ : ∃ z0, swN x y e = z0 := ⟨_, rfl⟩
  have hz0' : z0 < m := by rw [← hz]; exact swN_lt hx hy he
  rw [hz]
  obtain ⟨W, hW⟩ : ∃ W, store4 w2 g0 (.int .i64 m) (.int .i64 z0) (.slice none 0 0) (.slice none 0 0) = W := ⟨_, rfl⟩
  have hW' := hW
  unfold store4 at hW'
  have gW : Grow D W g0 m z0 (.slice none 0 0) (.slice none 0 0) 0 0 [] [] := by
    refine ⟨?_, by omega, World.ownsRow_nil _ _ _ _, World.ownsRow_nil _ _ _ _, by simp [Value.ownBlock], by simp [Value.ownBlock], by simp [Value.ownBlock]⟩
    rw [← hW]; exact store4_blk kb
  have bW : Below D V W := by rw [← hW]; exact store4_below (hD ▸ hb2) (hD ▸ hg0)
  rw [hW']
  have HD := Lib.hid hD
  have ltR : w.heap.size < D := by omega
  have ltZ : w.heap.size + 1 < D := by omega
  have hVD : D ≤ V.heap.size := by omega
  have hDV : V.heap.size ≤ D := by omega
  have GW := Lib.hid gW
  have BW := Lib.hid (show Below D V W from bW)
  clear hW hW' hD gW bW y0 y1 y2 y3 f0 f1 f2 f3 kb hfacts hb2 ebx q0 hg0 x0 x1 big cW hvs hW1
  have c0 := (KR.out.below BW.out ltR).cell 0
  simp at c0
  go_wp2_with (fail)
  clear c0
  go_loopw [24] (fun i wr => ∃ (k : Nat) (v2 v3 : Value), k ≤ m * m ∧ i = .int .i64 k ∧ Grow D wr g0 m z0 v2 v3 k k (tabG m (renF m x y S) k) (tabG m (renF m x y P) k) ∧ Below D V wr) (fun i _ => m * m - (intOf i).toNat)
  case atStart => exact ⟨0, _, _, Nat.zero_le _, rfl, GW.out, BW.out⟩
  case round =>
    obtain ⟨k, v2, v3, hk, rfl, hg, hb⟩ := hrel
    have GR := Lib.hid hg
    have BR := Lib.hid hb
    have KR1 := Lib.hid (KR.out.below hb ltR)
    have KZ1 := Lib.hid (KZ.out.below hb ltZ)
    have RA0 := Lib.hid (RV.out.next (hb.mono hDV))
    have DS0 := Lib.hid (show D ≤ wr.heap.size from Nat.le_trans hVD hb.size)
    clear hg hb
    by_cases hlt : k < m * m
    · have i1 : (k : Int) < (m : Int) * m := by rw [S3.out]; omega
      obtain ⟨p1', p2'⟩ := parts2 hlt
      obtain ⟨A, eA⟩ : ∃ A : Nat, A = k / m := ⟨_, rfl⟩
      obtain ⟨B, eB⟩ : ∃ B : Nat, B = k % m := ⟨_, rfl⟩
      have f1 : (k : Int) / m = (A : Int) := by rw [eA]; simp
      have f2 : (k : Int) % m = (B : Int) := by rw [eB]; simp
      rw [← eA] at p1'
      rw [← eB] at p2'
      have HA := Lib.hid eA
      have HB := Lib.hid eB
      obtain ⟨a1, ea1⟩ : ∃ a1, swN x y A = a1 := ⟨_, rfl⟩
      obtain ⟨b1', eb1⟩ : ∃ b1', swN x y B = b1' := ⟨_, rfl⟩
      have la1 : a1 < m := by rw [← ea1]; exact swN_lt hx hy p1'
      have lb1 : b1' < m := by rw [← eb1]; exact swN_lt hx hy p2'
      obtain ⟨sv, hsv⟩ : ∃ sv : Nat, sv = S (a1 * m + b1') := ⟨_, rfl⟩
      obtain ⟨pv, hpv⟩ : ∃ pv : Nat, pv = P (a1 * m + b1') := ⟨_, rfl⟩
      have ls : sv < m := by rw [hsv]; exact RV.out.ts.lt la1 lb1
      have lp : pv < m := by rw [hpv]; exact RV.out.tp.lt la1 lb1
      have HS1 := Lib.hid (show ∀ u, Calls Try.prog 134 #[.int .i64 A, .int .i64 x, .int .i64 y] u fun e' w' => e' = .returned (.int .i64 a1) ∧ Below u.heap.size u w' from fun u => by rw [← ea1]; exact l1Swapped_nat A x y u)
      have HS2 := Lib.hid (show ∀ u, Calls Try.prog 134 #[.int .i64 B, .int .i64 x, .int .i64 y] u fun e' w' => e' = .returned (.int .i64 b1') ∧ Below u.heap.size u w' from fun u => by rw [← eb1]; exact l1Swapped_nat B x y u)
      have HA1 := Lib.hid (show ∀ u, RingAt u m e b1 o1 la ca b2 o2 lb cb S P → Calls Try.prog 52 #[.agg #[.int .i64 m, .int .i64 e, .slice (some ⟨b1, o1, none⟩) la ca, .slice (some ⟨b2, o2, none⟩) lb cb], .int .i64 a1, .int .i64 b1'] u fun e' w' => e' = .returned (.int .i64 sv) ∧ Below u.heap.size u w' from fun u h => by rw [hsv]; exact l1Add_any a1 b1' _ _ _ _ _ _ _ _ _ _ S P u h la1 lb1)
      have HB1 := Lib.hid (show ∀ u, RingAt u m e b1 o1 la ca b2 o2 lb cb S P → Calls Try.prog 51 #[.agg #[.int .i64 m, .int .i64 e, .slice (some ⟨b1, o1, none⟩) la ca, .slice (some ⟨b2, o2, none⟩) lb cb], .int .i64 a1, .int .i64 b1'] u fun e' w' => e' = .returned (.int .i64 pv) ∧ Below u.heap.size u w' from fun u h => by rw [hpv]; exact l1Mul_any a1 b1' _ _ _ _ _ _ _ _ _ _ S P u h la1 lb1)
      have VS := Lib.hid (show swN x y sv = renF m x y S (k / m) (k % m) by
        unfold renF; rw [← HA.out, ← HB.out, ea1, eb1, hsv])
      have VP := Lib.hid (show swN x y pv = renF m x y P (k / m) (k % m) by
        unfold renF; rw [← HA.out, ← HB.out, ea1, eb1, hpv])
      obtain ⟨sw, hsw⟩ : ∃ sw, swN x y sv = sw := ⟨_, rfl⟩
      obtain ⟨pw, hpw⟩ : ∃ pw, swN x y pv = pw := ⟨_, rfl⟩
      have HS3 := Lib.hid (show ∀ u, Calls Try.prog 134 #[.int .i64 sv, .int .i64 x, .int .i64 y] u fun e' w' => e' = .returned (.int .i64 sw) ∧ Below u.heap.size u w' from fun u => by rw [← hsw]; exact l1Swapped_nat sv x y u)
      have HS4 := Lib.hid (show ∀ u, Calls Try.prog 134 #[.int .i64 pv, .int .i64 x, .int .i64 y] u fun e' w' => e' = .returned (.int .i64 pw) ∧ Below u.heap.size u w' from fun u => by rw [← hpw]; exact l1Swapped_nat pv x y u)
      rw [hsw] at VS
      rw [hpw] at VP
      have n3 : ¬ m = 0 := by omega
      have hkk : k + 1 ≤ maxLen := by unfold maxLen; omega
      have hbt : (k + 1) * 8 ≤ 140737488355328 := by omega
      clear eA eB ea1 eb1 hsv hpv hsw hpw
      go_wp2_with (fail)
      refine wp_region_makers 14 (fun _ => false) (fun _ _ _ => True) (fun _ _ => True) (fun _ => undef) probe (by kernel_rfl) (by kernel_rfl) (fun _ _ _ _ _ _ => trivial) (fun _ _ _ _ _ => trivial) (fun _ _ => trivial) ?_
      intro V1 hV1 vs1 _
      have cV1 : ∃ x, extC V1 x := ⟨V1, extC_of (Below.refl _ _)⟩
      have c0 := (KR1.out.next hV1).cell 0
      simp at c0
      simp only [List.take_succ_cons, List.take_zero, List.drop_succ_cons, List.drop_zero]
      refine wpV_quiet cV1 14 0 _ _ (by decide) (by decide) ?_
      simp only [List.take_succ_cons, List.take_zero, List.drop_succ_cons, List.drop_zero]
      repeat (go_big_quiet_step (first
        | (go_at_call 134; with_reducible refine calls_ext (HS1.out _))
        | (go_at_call 134; with_reducible refine calls_ext (HS2.out _))))
      refine wpQuiet_nil ?_
      refine wpV_nil ?_
      intro w3 hb3 _ _
      have GD := Lib.hid (GR.out.keep hb3)
      have BD := Lib.hid (BR.out.trans (hb3.mono DS0.out))
      have KRA := Lib.hid (KR1.out.next hb3)
      have RAA := Lib.hid (RA0.out.next hb3)
      have GDDW := Lib.hid (show D ≤ w3.heap.size from Nat.le_trans DS0.out hb3.size)
      clear hV1 c0 cV1 hb3 f1 f2
      go_wp2_with (fail)
      refine wp_region_makers 10 (fun i => i == 9) (appPhi D (.int .i64 sw)) appSh (fun _ => .slice (some ⟨0, 0, none⟩) 1 1) probe (by kernel_rfl) (by kernel_rfl) appPhi_stable (fun i v x _ => appSh_of i v x) (fun _ _ => ⟨0, rfl⟩) ?_
      intro W1 hW1 vsA hvsA
      obtain ⟨h1A, e1A⟩ : ∃ g, vsA 9 = .slice (some ⟨g, 0, none⟩) 1 1 := hvsA 9 rfl
      have cWA : ∃ x, extC W1 x := ⟨W1, extC_of (Below.refl _ _)⟩
      have bigA : ∀ x, extC W1 x → D ≤ x.heap.size := fun x ⟨u, hu⟩ => by rw [hu]; exact Nat.le_trans (Nat.le_trans (GDDW.out) hW1.size) (ext_size W1 u)
      have x0A := (KRA.out.below hW1 KRA.out.lt).cell 0
      have x1A := (KRA.out.below hW1 KRA.out.lt).cell 1
      have x2A := (KRA.out.below hW1 KRA.out.lt).cell 2
      have x3A := (KRA.out.below hW1 KRA.out.lt).cell 3
      have cA := (GD.out.keep hW1).box.cell 2
      simp at x0A x1A x2A x3A cA
      have RWA := Lib.hid (RAA.out.next hW1)
      simp only [List.take_succ_cons, List.take_zero, List.drop_succ_cons, List.drop_zero]
      refine wpV_quiet cWA 9 0 _ _ (by decide) (by decide) ?_
      simp only [List.take_succ_cons, List.take_zero, List.drop_succ_cons, List.drop_zero]
      repeat (go_big_quiet_step (first
          | (go_at_call 52; with_reducible refine calls_ext (HA1.out _ (RWA.out.next (ext_below _ _))))
          | (go_at_call 134; with_reducible refine calls_ext (HS3.out _))))
      refine wpQuiet_nil ?_
      refine wpV_make' rfl rfl (fun x hx => makesAt_mono (makes_one _ _ rfl rfl x) fun v x' ⟨g, p1, p2, p3⟩ => ⟨g, p1, Nat.le_trans (bigA x hx) p2, p3⟩) ?_
      rw [e1A]
      go_simp
      refine wpV_nil ?_
      intro wm hbA hfactsA _
      obtain ⟨gA, q1A, _, r1A⟩ := hfactsA 9 (by omega) rfl
      have egA : gA = h1A := by rw [e1A] at q1A; simp at q1A; exact q1A.symm
      subst egA
      have gkA := GD.out.keep hbA
      refine wpList_append_lies _ rfl _ _ _ rfl D 3 i0 _ 1 8 Try.underlying23 hi hz0 hz1 hz2 rfl (by omega) v2 k _ rfl gkA.o2 ⟨gA, 0, none⟩ 1 1 _ rfl rfl (World.news_of_block r1A) (by simp [Value.oneCell']) (by omega) hkk hbt (Nat.le_trans GDDW.out hbA.size) _ rfl ?_
      intro gg cap w7 hownA hgrowA hatA _
      have nnA : v2.ownBlock ≠ some g0 := GD.out.n2
      have ffA : w7.frozen? ⟨g0, 2, none⟩ = false := by rw [hgrowA.frozen_far _ gkA.box.lt (Ne.symm nnA)]; exact gkA.box.frozen 2
      have ccA : w7.cell? ⟨g0, 2, none⟩ = some v2 := by rw [hgrowA.cell_far _ gkA.box.lt (Ne.symm nnA)]; exact gkA.box.cell 2
      obtain ⟨gpA, bpA⟩ := gkA.put2 hownA hgrowA hatA
      go_wp2_with (fail)
      have GP := Lib.hid gpA
      have BP := Lib.hid (BD.out.trans ((hbA.mono GDDW.out).trans bpA))
      have KRB := Lib.hid (KRA.out.below ((hbA.mono GDDW.out).trans bpA) ltR)
      have RAB := Lib.hid (RV.out.next ((BD.out.trans ((hbA.mono GDDW.out).trans bpA)).mono hDV))
      clear gpA bpA hownA hgrowA hatA ffA ccA gkA hbA hfactsA q1A r1A cA nnA cWA bigA hW1 hvsA x0A x1A x2A x3A
      obtain ⟨we, hwe⟩ : ∃ we, w7.setCell ⟨g0, 2, none⟩ (.slice (some ⟨gg, 0, none⟩) (k + 1) cap) = we := ⟨_, rfl⟩
      rw [hwe] at GP BP KRB RAB ⊢
      clear hwe
      have GPDW := Lib.hid (show D ≤ we.heap.size from Nat.le_of_lt (Nat.lt_of_le_of_lt GP.out.hD GP.out.box.lt))
      go_wp2_with (fail)
      refine wp_region_makers 10 (fun i => i == 9) (appPhi D (.int .i64 pw)) appSh (fun _ => .slice (some ⟨0, 0, none⟩) 1 1) probe (by kernel_rfl) (by kernel_rfl) appPhi_stable (fun i v x _ => appSh_of i v x) (fun _ _ => ⟨0, rfl⟩) ?_
      intro W2 hW2 vsB hvsB
      obtain ⟨h1B, e1B⟩ : ∃ g, vsB 9 = .slice (some ⟨g, 0, none⟩) 1 1 := hvsB 9 rfl
      have cWB : ∃ x, extC W2 x := ⟨W2, extC_of (Below.refl _ _)⟩
      have bigB : ∀ x, extC W2 x → D ≤ x.heap.size := fun x ⟨u, hu⟩ => by rw [hu]; exact Nat.le_trans (Nat.le_trans (GPDW.out) hW2.size) (ext_size W2 u)
      have x0B := (KRB.out.below hW2 KRB.out.lt).cell 0
      have x1B := (KRB.out.below hW2 KRB.out.lt).cell 1
      have x2B := (KRB.out.below hW2 KRB.out.lt).cell 2
      have x3B := (KRB.out.below hW2 KRB.out.lt).cell 3
      have cB := (GP.out.keep hW2).box.cell 3
      simp at x0B x1B x2B x3B cB
      have RWB := Lib.hid (RAB.out.next hW2)
      simp only [List.take_succ_cons, List.take_zero, List.drop_succ_cons, List.drop_zero]
      refine wpV_quiet cWB 9 0 _ _ (by decide) (by decide) ?_
      simp only [List.take_succ_cons, List.take_zero, List.drop_succ_cons, List.drop_zero]
      repeat (go_big_quiet_step (first
          | (go_at_call 51; with_reducible refine calls_ext (HB1.out _ (RWB.out.next (ext_below _ _))))
          | (go_at_call 134; with_reducible refine calls_ext (HS4.out _))))
      refine wpQuiet_nil ?_
      refine wpV_make' rfl rfl (fun x hx => makesAt_mono (makes_one _ _ rfl rfl x) fun v x' ⟨g, p1, p2, p3⟩ => ⟨g, p1, Nat.le_trans (bigB x hx) p2, p3⟩) ?_
      rw [e1B]
      go_simp
      refine wpV_nil ?_
      intro wn hbB hfactsB _
      obtain ⟨gB, q1B, _, r1B⟩ := hfactsB 9 (by omega) rfl
      have egB : gB = h1B := by rw [e1B] at q1B; simp at q1B; exact q1B.symm
      subst egB
      have gkB := GP.out.keep hbB
      refine wpList_append_lies _ rfl _ _ _ rfl D 3 i0 _ 1 8 Try.underlying23 hi hz0 hz1 hz2 rfl (by omega) v3 k _ rfl gkB.o3 ⟨gB, 0, none⟩ 1 1 _ rfl rfl (World.news_of_block r1B) (by simp [Value.oneCell']) (by omega) hkk hbt (Nat.le_trans GPDW.out hbB.size) _ rfl ?_
      intro g9 cap9 w8 hownB hgrowB hatB _
      have nnB : v3.ownBlock ≠ some g0 := GP.out.n3
      have ffB : w8.frozen? ⟨g0, 3, none⟩ = false := by rw [hgrowB.frozen_far _ gkB.box.lt (Ne.symm nnB)]; exact gkB.box.frozen 3
      have ccB : w8.cell? ⟨g0, 3, none⟩ = some v3 := by rw [hgrowB.cell_far _ gkB.box.lt (Ne.symm nnB)]; exact gkB.box.cell 3
      obtain ⟨gpB, bpB⟩ := gkB.put3 hownB hgrowB hatB
      go_wp2_with (fail)
      have GQ := Lib.hid gpB
      have BQ := Lib.hid (BP.out.trans ((hbB.mono GPDW.out).trans bpB))
      clear gpB bpB hownB hgrowB hatB ffB ccB gkB hbB hfactsB q1B r1B cB nnB cWB bigB hW2 hvsB x0B x1B x2B x3B
      obtain ⟨wf, hwf⟩ : ∃ wf, w8.setCell ⟨g0, 3, none⟩ (.slice (some ⟨g9, 0, none⟩) (k + 1) cap9) = wf := ⟨_, rfl⟩
      rw [hwf] at GQ BQ ⊢
      clear hwf
      go_wp2
      go_roundw
      case rel => exact ⟨k + 1, _, _, by omega, by go_num, by
        have := GQ.out
        rw [VS.out, VP.out, ← tabG_succ, ← tabG_succ] at this
        exact this, BQ.out⟩
      case measure => simp [intOf]; omega
    · have i1 : ¬ (k : Int) < (m : Int) * m := by rw [S3.out]; omega
      have hkm : k = m * m := by omega
      subst hkm
      have hpos : 0 < m * m := Nat.mul_pos hm hm
      obtain ⟨g2, cap2, e2, _, _⟩ := GR.out.o2.form hpos
      obtain ⟨g3, cap3, e3, _, _⟩ := GR.out.o3.form hpos
      subst e2 e3
      have c0 := GR.out.box.cell 0
      have c1' := GR.out.box.cell 1
      have c2' := GR.out.box.cell 2
      have c3' := GR.out.box.cell 3
      have d0 := KZ1.out.cell 0
      have d1 := KZ1.out.cell 1
      have d2 := KZ1.out.cell 2
      have d3 := KZ1.out.cell 3
      have f0 := KZ1.out.frozen 0
      have f1 := KZ1.out.frozen 1
      have f2 := KZ1.out.frozen 2
      have f3 := KZ1.out.frozen 3
      simp at c0 c1' c2' c3' d0 d1 d2 d3
      go_wp2
      refine bodyPost_ret (v := .agg #[.int .i64 m, .int .i64 z0, .slice (some ⟨g2, 0, none⟩) (m * m) cap2, .slice (some ⟨g3, 0, none⟩) (m * m) cap3]) ?_ rfl ⟨_, rfl, ?_, ?_⟩
      · exact results_cell_row Try.results125 _ _ (w.heap.size + 1) 25 _ (0, 0) _ rfl (store4_blk KZ1.out) Try.underlying25 rfl (by kernel_rfl)
      · have bound : ∀ (T : Nat → Nat), (∀ a b, a < m → b < m → T (a * m + b) < m) → ∀ a b, a < m → b < m → renF m x y T a b < m := fun T hT a b ha hb => swN_lt hx hy (hT _ _ (swN_lt hx hy ha) (swN_lt hx hy hb))
        exact fit_new ((GR.out.result KZ1.out (by decide)).mono (Nat.le_of_lt ltR)) hm hm' hz0' tabG_length tabG_length (tabG_in (Nat.le_refl _) (bound S fun _ _ h h' => RV.out.ts.lt h h')) (tabG_in (Nat.le_refl _) (bound P fun _ _ h h' => RV.out.tp.lt h h'))
      · exact store4_below (BV.out.trans (BR.out.mono (Nat.le_of_lt ltR))) (by omega)

end Go.Proofs.Ytlcpbdbdiahmjaa

