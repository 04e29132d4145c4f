
import Derived.Test.YtahdkdpliphcnaaNL
import Derived.Test.YtahdkdpliphcnaaMQ
import Derived.Test.YtahdkdpliphcnaaMF
import Derived.Test.YtahdkdpliphcnaaLWL
import Derived.Deep.MidRow
/- The drawing side: a ring, a length and rows (l10Rows). -/
namespace Go.Proofs.Ytahdkdpliphcnaa
open Go.RowKit Go.Shelf
set_option maxRecDepth 100000

theorem LLo.wk_ {D g : Nat} {w w' : World} {v : Value} {ZZ : List (List Int)} (h : LLo D w v ZZ) (hw : Wk g w w') (hg : g < D) : LLo D w' v ZZ := by
  obtain ⟨xs, h1, h2⟩ := h
  exact ⟨xs, h1.kept hw.grown (.inr fun e => by have := (h1.lt g e).1; omega), h2.1, fun i Z hZ => by obtain ⟨B, l, c, e1, e2, e3⟩ := h2.2 i Z hZ; exact ⟨B, l, c, e1, e2.wk hw hg, e3⟩⟩
/-- One more list, in a slice of slices of the call's own. -/
theorem LLs.more2 {D l c : Nat} {w w' : World} {v v' : Value} {xs : List Value} {ZZ : List (List Int)} {Z : List Int} {B : Option Addr} {o : Obj} (h : LLs D w v.ownBlock xs ZZ) (hB : Own w D B l Z) (hl : l ≤ c) (hl' : l ≤ 1048570)
    (hap : ∀ g off, 0 < l → B = some ⟨g, off, none⟩ → v.ownBlock ≠ some g) (ho : w'.ownsRow D 22 1 v' (ZZ.length + 1) (xs ++ [.slice B l c])) (hg : (w.alloc o).grownBy w' v.ownBlock) (hloc : v'.ownBlock = v.ownBlock ∨ v'.ownBlock = some (w.alloc o).heap.size) : LLo D w' v' (ZZ ++ [Z]) :=
  ⟨xs ++ [.slice B l c], by simpa using ho, LLs.more h hB hl hl' hap hg hloc⟩
theorem rng4 {V : World} {g o : Nat} {a b c d : Value} (h0 : V.cell? ⟨g, o, none⟩ = some a) (h1 : V.cell? ⟨g, o + 1, none⟩ = some b) (h2 : V.cell? ⟨g, o + 2, none⟩ = some c) (h3 : V.cell? ⟨g, o + 3, none⟩ = some d) : V.rangeAt g o [a, b, c, d] := fun j u hu => by
  have hj : j < 4 := (List.getElem?_eq_some_iff.1 hu).1
  have : j = 0 ∨ j = 1 ∨ j = 2 ∨ j = 3 := by omega
  rcases this with rfl | rfl | rfl | rfl
  · cases hu; exact h0
  · cases hu; exact h1
  · cases hu; exact h2
  · cases hu; exact h3
theorem nine_rings {V : World} {g D : Nat} {T : TypeId} {a0 b0 c0 d0 a1 b1 c1 d1 a2 b2 c2 d2 a3 b3 c3 d3 a4 b4 c4 d4 a5 b5 c5 d5 a6 b6 c6 d6 a7 b7 c7 d7 a8 b8 c8 d8 : Value} (h : Blk V g T #[a0, b0, c0, d0, a1, b1, c1, d1, a2, b2, c2, d2, a3, b3, c3, d3, a4, b4, c4, d4, a5, b5, c5, d5, a6, b6, c6, d6, a7, b7, c7, d7, a8, b8, c8, d8]) (h0 : AnyR D V (.agg #[a0, b0, c0, d0])) (h1 : AnyR D V (.agg #[a1, b1, c1, d1])) (h2 : AnyR D V (.agg #[a2, b2, c2, d2])) (h3 : AnyR D V (.agg #[a3, b3, c3, d3])) (h4 : AnyR D V (.agg #[a4, b4, c4, d4])) (h5 : AnyR D V (.agg #[a5, b5, c5, d5])) (h6 : AnyR D V (.agg #[a6, b6, c6, d6])) (h7 : AnyR D V (.agg #[a7, b7, c7, d7])) (h8 : AnyR D V (.agg #[a8, b8, c8, d8])) (p : Nat) (hp : p < 9) : ∃ a b c d, V.rangeAt g (p * 4) [a, b, c, d] ∧ AnyR D V (.agg #[a, b, c, d]) := by
  have : p = 0 ∨ p = 1 ∨ p = 2 ∨ p = 3 ∨ p = 4 ∨ p = 5 ∨ p = 6 ∨ p = 7 ∨ p = 8 := by omega
  rcases this with rfl | rfl | rfl | rfl | rfl | rfl | rfl | rfl | rfl
  · exact ⟨_, _, _, _, rng4 (h.cell 0) (h.cell 1) (h.cell 2) (h.cell 3), h0⟩
  · exact ⟨_, _, _, _, rng4 (h.cell 4) (h.cell 5) (h.cell 6) (h.cell 7), h1⟩
  · exact ⟨_, _, _, _, rng4 (h.cell 8) (h.cell 9) (h.cell 10) (h.cell 11), h2⟩
  · exact ⟨_, _, _, _, rng4 (h.cell 12) (h.cell 13) (h.cell 14) (h.cell 15), h3⟩
  · exact ⟨_, _, _, _, rng4 (h.cell 16) (h.cell 17) (h.cell 18) (h.cell 19), h4⟩
  · exact ⟨_, _, _, _, rng4 (h.cell 20) (h.cell 21) (h.cell 22) (h.cell 23), h5⟩
  · exact ⟨_, _, _, _, rng4 (h.cell 24) (h.cell 25) (h.cell 26) (h.cell 27), h6⟩
  · exact ⟨_, _, _, _, rng4 (h.cell 28) (h.cell 29) (h.cell 30) (h.cell 31), h7⟩
  · exact ⟨_, _, _, _, rng4 (h.cell 32) (h.cell 33) (h.cell 34) (h.cell 35), h8⟩

/-- Rows as they were drawn: a slice of slices of the call's own, few and short. -/
def DRw (D : Nat) (w : World) (v : Value) : Prop := ∃ RR, LLo D w v RR ∧ RR.length ≤ 3 ∧ ∀ i, lsZ RR i ≤ 3
theorem DRw.next {D : Nat} {w w' : World} {v : Value} (h : DRw D w v) (hb : Below w.heap.size w w') : DRw D w' v := by
  obtain ⟨RR, h1, h2⟩ := h
  exact ⟨RR, h1.next hb, h2⟩
theorem DRw.wk {D g : Nat} {w w' : World} {v : Value} (h : DRw D w v) (hw : Wk g w w') (hg : g < D) : DRw D w' v := by
  obtain ⟨RR, h1, h2⟩ := h
  exact ⟨RR, h1.wk_ hw hg, h2⟩
theorem LLo.downR {D D' : Nat} {w : World} {v : Value} {ZZ : List (List Int)} (h : LLo D w v ZZ) (hD : D' ≤ D) : LLo D' w v ZZ := by
  obtain ⟨xs, h1, h2⟩ := h
  exact ⟨xs, own_base h1 hD, h2.1, fun i Z hZ => by obtain ⟨B, l, c, e1, e2, e3⟩ := h2.2 i Z hZ; exact ⟨B, l, c, e1, e2.down hD, e3⟩⟩
theorem noB0 : NoU8 #[.int .i64 0, .int .i64 0, .slice none 0 0, .slice none 0 0] := noByte4 0 0 none none 0 0 0 0
theorem lsZ_snoc {RR : List (List Int)} {Z : List Int} (h : ∀ i, lsZ RR i ≤ 3) (hZ : Z.length ≤ 3) (i : Nat) : lsZ (RR ++ [Z]) i ≤ 3 := by
  unfold lsZ fZ
  rcases Nat.lt_or_ge i RR.length with hi | hi
  · rw [List.getElem?_append_left hi]; exact h i
  · rw [List.getElem?_append_right hi]
    cases hk : i - RR.length with
    | zero => simpa using hZ
    | succ k => simp

set_option maxHeartbeats 16000000 in
theorem l10Rows_any (g k : Nat) (w : World) (hr : Rdr w g k) (hk : k ≤ 1125899906840000) :
    Calls Try.prog 55 #[.pointer (some ⟨g, 0, none⟩)] w fun e w' => ∃ (v : Value) (N : Int) (u : Value), e = .returned (.tuple #[v, .int .i64 N, u]) ∧ AnyR w.heap.size w' v ∧ DRw w.heap.size w' u ∧ Wk g w w' ∧ Rdr w' g (k + 100) := by
  obtain ⟨i0, hi, hz0, hz1, hz2⟩ := info_parts sl_info
  obtain ⟨j0, hji, hy0, hy1, hy2⟩ := info_parts int_info
  have hg := hr.lt
  obtain ⟨W, hW⟩ : ∃ W, w.alloc (.cells #[.int .i64 0, .int .i64 0, .slice none 0 0, .slice none 0 0] 27) = W := ⟨_, rfl⟩
  have sW : W.heap.size = w.heap.size + 1 := by subst hW; simp
  have bW : Below w.heap.size w W := by subst hW; exact (Below.refl _ _).alloc (Nat.le_refl _) _
  have K0 := Lib.hid (show Blk W w.heap.size 27 #[.int .i64 0, .int .i64 0, .slice none 0 0, .slice none 0 0] by subst hW; exact Blk.new w _ _)
  have BW := Lib.hid bW
  have HR := Lib.hid hr
  have E0 := Lib.hid (Below.refl W.heap.size W)
  have HW := Lib.hid hW
  clear bW hr hW
  go_enter Try.func55, Try.ntmps55
  go_upto_region 1 with (fail)
  rw [HW.out]
  go_wp2_with (fail)
  refine (l1Known_any 0 W).mono ?_
  rintro e x0 ⟨u0, rfl, ⟨_, hF⟩, hb⟩
  have F0 := Lib.hid (hF.any.lower E0.out.size)
  have E1 := Lib.hid (below_step E0.out hb)
  clear hb hF
  obtain ⟨n0, o0, A0, C0, q0, ca0, cb0, X0, Y0, rfl, _⟩ := F0.out.data
  go_wp2_with (fail)
  refine (fit_int 2 2 rfl (by decide) (by decide) x0).mono ?_
  rintro e x1 ⟨u1, rfl, hF, hb⟩
  have F1 := Lib.hid (hF.any.lower E1.out.size)
  have F0 := Lib.hid (F0.out.next hb)
  have E2 := Lib.hid (below_step E1.out hb)
  clear hb hF
  obtain ⟨n1, o1, A1, C1, q1, ca1, cb1, X1, Y1, rfl, _⟩ := F1.out.data
  go_wp2_with (fail)
  refine (fit_int 3 3 rfl (by decide) (by decide) x1).mono ?_
  rintro e x2 ⟨u2, rfl, hF, hb⟩
  have F2 := Lib.hid (hF.any.lower E2.out.size)
  have F0 := Lib.hid (F0.out.next hb)
  have F1 := Lib.hid (F1.out.next hb)
  have E3 := Lib.hid (below_step E2.out hb)
  clear hb hF
  obtain ⟨n2, o2, A2, C2, q2, ca2, cb2, X2, Y2, rfl, _⟩ := F2.out.data
  go_wp2_with (fail)
  refine (l1Known_any 2 x2).mono ?_
  rintro e x3 ⟨u3, rfl, ⟨_, hF⟩, hb⟩
  have F3 := Lib.hid (hF.any.lower E3.out.size)
  have F0 := Lib.hid (F0.out.next hb)
  have F1 := Lib.hid (F1.out.next hb)
  have F2 := Lib.hid (F2.out.next hb)
  have E4 := Lib.hid (below_step E3.out hb)
  clear hb hF
  obtain ⟨n3, o3, A3, C3, q3, ca3, cb3, X3, Y3, rfl, _⟩ := F3.out.data
  go_wp2_with (fail)
  refine (l1Known_any 1 x3).mono ?_
  rintro e x4 ⟨u4, rfl, ⟨_, hF⟩, hb⟩
  have F4 := Lib.hid (hF.any.lower E4.out.size)
  have F0 := Lib.hid (F0.out.next hb)
  have F1 := Lib.hid (F1.out.next hb)
  have F2 := Lib.hid (F2.out.next hb)
  have F3 := Lib.hid (F3.out.next hb)
  have E5 := Lib.hid (below_step E4.out hb)
  clear hb hF
  obtain ⟨n4, o4, A4, C4, q4, ca4, cb4, X4, Y4, rfl, _⟩ := F4.out.data
  go_wp2_with (fail)
  refine (l1Known_any 3 x4).mono ?_
  rintro e x5 ⟨u5, rfl, ⟨_, hF⟩, hb⟩
  have F5 := Lib.hid (hF.any.lower E5.out.size)
  have F0 := Lib.hid (F0.out.next hb)
  have F1 := Lib.hid (F1.out.next hb)
  have F2 := Lib.hid (F2.out.next hb)
  have F3 := Lib.hid (F3.out.next hb)
  have F4 := Lib.hid (F4.out.next hb)
  have E6 := Lib.hid (below_step E5.out hb)
  clear hb hF
  obtain ⟨n5, o5, A5, C5, q5, ca5, cb5, X5, Y5, rfl, _⟩ := F5.out.data
  go_wp2_with (fail)
  refine (l1Known_any 4 x5).mono ?_
  rintro e x6 ⟨u6, rfl, ⟨_, hF⟩, hb⟩
  have F6 := Lib.hid (hF.any.lower E6.out.size)
  have F0 := Lib.hid (F0.out.next hb)
  have F1 := Lib.hid (F1.out.next hb)
  have F2 := Lib.hid (F2.out.next hb)
  have F3 := Lib.hid (F3.out.next hb)
  have F4 := Lib.hid (F4.out.next hb)
  have F5 := Lib.hid (F5.out.next hb)
  have E7 := Lib.hid (below_step E6.out hb)
  clear hb hF
  obtain ⟨n6, o6, A6, C6, q6, ca6, cb6, X6, Y6, rfl, _⟩ := F6.out.data
  go_wp2_with (fail)
  refine (l1Known_any 5 x6).mono ?_
  rintro e x7 ⟨u7, rfl, ⟨_, hF⟩, hb⟩
  have F7 := Lib.hid (hF.any.lower E7.out.size)
  have F0 := Lib.hid (F0.out.next hb)
  have F1 := Lib.hid (F1.out.next hb)
  have F2 := Lib.hid (F2.out.next hb)
  have F3 := Lib.hid (F3.out.next hb)
  have F4 := Lib.hid (F4.out.next hb)
  have F5 := Lib.hid (F5.out.next hb)
  have F6 := Lib.hid (F6.out.next hb)
  have E8 := Lib.hid (below_step E7.out hb)
  clear hb hF
  obtain ⟨n7, o7, A7, C7, q7, ca7, cb7, X7, Y7, rfl, _⟩ := F7.out.data
  go_wp2_with (fail)
  refine (fit_int 8 8 rfl (by decide) (by decide) x7).mono ?_
  rintro e x8 ⟨u8, rfl, hF, hb⟩
  have F8 := Lib.hid (hF.any.lower E8.out.size)
  have F0 := Lib.hid (F0.out.next hb)
  have F1 := Lib.hid (F1.out.next hb)
  have F2 := Lib.hid (F2.out.next hb)
  have F3 := Lib.hid (F3.out.next hb)
  have F4 := Lib.hid (F4.out.next hb)
  have F5 := Lib.hid (F5.out.next hb)
  have F6 := Lib.hid (F6.out.next hb)
  have F7 := Lib.hid (F7.out.next hb)
  have E9 := Lib.hid (below_step E8.out hb)
  clear hb hF
  obtain ⟨n8, o8, A8, C8, q8, ca8, cb8, X8, Y8, rfl, _⟩ := F8.out.data
  go_upto_region 2 with (fail)
  obtain ⟨V, hV⟩ : ∃ V, x8.alloc (.cells #[.int .i64 n0, .int .i64 o0, .slice A0 q0 ca0, .slice C0 q0 cb0, .int .i64 n1, .int .i64 o1, .slice A1 q1 ca1, .slice C1 q1 cb1, .int .i64 n2, .int .i64 o2, .slice A2 q2 ca2, .slice C2 q2 cb2, .int .i64 n3, .int .i64 o3, .slice A3 q3 ca3, .slice C3 q3 cb3, .int .i64 n4, .int .i64 o4, .slice A4 q4 ca4, .slice C4 q4 cb4, .int .i64 n5, .int .i64 o5, .slice A5 q5 ca5, .slice C5 q5 cb5, .int .i64 n6, .int .i64 o6, .slice A6 q6 ca6, .slice C6 q6 cb6, .int .i64 n7, .int .i64 o7, .slice A7 q7 ca7, .slice C7 q7 cb7, .int .i64 n8, .int .i64 o8, .slice A8 q8 ca8, .slice C8 q8 cb8] 27) = V := ⟨_, rfl⟩
  have bV : Below x8.heap.size x8 V := by subst hV; exact (Below.refl _ _).alloc (Nat.le_refl _) _
  have kV : Blk V x8.heap.size 27 #[.int .i64 n0, .int .i64 o0, .slice A0 q0 ca0, .slice C0 q0 cb0, .int .i64 n1, .int .i64 o1, .slice A1 q1 ca1, .slice C1 q1 cb1, .int .i64 n2, .int .i64 o2, .slice A2 q2 ca2, .slice C2 q2 cb2, .int .i64 n3, .int .i64 o3, .slice A3 q3 ca3, .slice C3 q3 cb3, .int .i64 n4, .int .i64 o4, .slice A4 q4 ca4, .slice C4 q4 cb4, .int .i64 n5, .int .i64 o5, .slice A5 q5 ca5, .slice C5 q5 cb5, .int .i64 n6, .int .i64 o6, .slice A6 q6 ca6, .slice C6 q6 cb6, .int .i64 n7, .int .i64 o7, .slice A7 q7 ca7, .slice C7 q7 cb7, .int .i64 n8, .int .i64 o8, .slice A8 q8 ca8, .slice C8 q8 cb8] := by subst hV; exact Blk.new x8 _ _
  have N9 := Lib.hid (nine_rings kV (F0.out.next bV) (F1.out.next bV) (F2.out.next bV) (F3.out.next bV) (F4.out.next bV) (F5.out.next bV) (F6.out.next bV) (F7.out.next bV) (F8.out.next bV))
  rw [hV]
  have EV := Lib.hid (below_step E9.out bV)
  have BV := Lib.hid (below_step BW.out EV.out)
  have sx8 := E9.out.size
  obtain ⟨gL, hgL⟩ : ∃ b, x8.heap.size = b := ⟨_, rfl⟩
  rw [hgL] at sx8 kV N9 ⊢
  have lx8 := kV.lt
  clear hV bV kV hgL F0 E0 F1 E1 F2 E2 F3 E3 F4 E4 F5 E5 F6 E6 F7 E7 F8 E8 E9
  go_wp2_with (fail)
  refine (pick_any g k 9 V (HR.out.next BV.out) (by omega)).mono ?_
  rintro e w1 ⟨p, rfl, hp0, hp1, hw1, hr1⟩
  obtain ⟨p, rfl⟩ := Int.eq_ofNat_of_zero_le hp0
  have hp : p < 9 := by omega
  have hpi : (p : Int) < 9 := by omega
  obtain ⟨a, b, c, d, hrng, hany⟩ := N9.out p hp
  have lgW : g < W.heap.size := by omega
  have nK : w.heap.size ≠ g := by omega
  have hrange : w1.rangeAt gL (p * 4) [a, b, c, d] := fun j u hu => (hw1.cell (p := ⟨gL, p * 4 + j, none⟩) lx8 (by show gL ≠ g; omega)).trans (hrng j u hu)
  have hany1 := hany.wk hw1 lgW
  obtain ⟨n, o, A, B, q, ca, cb, X, Y, he, hOX, hOY, hq1, hq2, hq3, hq4⟩ := hany1.data
  have hnle := hany1
  simp only [Value.agg.injEq, Array.mk.injEq, List.cons.injEq, and_true] at he
  obtain ⟨rfl, rfl, rfl, rfl⟩ := he
  have hn9 := AnyR.le hany1
  have X1 := Lib.hid ((Below.wk (g := g) EV.out).trans hw1)
  have R1 := Lib.hid hr1
  have s1 := hw1.size
  have sV := EV.out.size
  clear hrng hany hany1 hnle hw1 hr1 N9 hp0 hp1
  go_upto_region 3 with (first
    | (refine wpList_load_mid rfl 27 (.tmp 26) rfl gL (p * 4) rfl [.int .i64 n, .int .i64 o, .slice A q ca, .slice B q cb] _ hrange Try.underlying27 rfl (by kernel_rfl) ?_)
    | (go_at_call 88; refine (l1Bad_any g (k + 1) n o A B q ca cb X Y w1 R1.out (by omega) hOX.ints hOY.ints hq1 hq2 hn9).mono ?_; rintro e w2 ⟨v2, rfl, hA2, hw2, hr2⟩; have A2 := Lib.hid (hA2.lower (D' := W.heap.size) (by omega)); have X2 := Lib.hid (X1.out.trans hw2); have R2 := Lib.hid hr2; have s2 := hw2.size; obtain ⟨n2, o2, A2', B2', q2, ca2, cb2, X2', Y2', rfl, _⟩ := hA2.data; clear hA2 hw2 hr2))
  obtain ⟨V2, hV2⟩ : ∃ V, w2.alloc (.cells #[.int .i64 n2, .int .i64 o2, .slice A2' q2 ca2, .slice B2' q2 cb2] 27) = V := ⟨_, rfl⟩
  have bV2 : Below w2.heap.size w2 V2 := by subst hV2; exact (Below.refl _ _).alloc (Nat.le_refl _) _
  have kB : Blk V2 w2.heap.size 27 #[.int .i64 n2, .int .i64 o2, .slice A2' q2 ca2, .slice B2' q2 cb2] := by subst hV2; exact Blk.new w2 _ _
  rw [hV2]
  obtain ⟨gb, hgb⟩ : ∃ b, w2.heap.size = b := ⟨_, rfl⟩
  rw [hgb] at kB ⊢
  have KB := Lib.hid kB
  have X3 := Lib.hid (X2.out.trans (Below.wk bV2))
  have R3 := Lib.hid (R2.out.next bV2)
  have A3 := Lib.hid (A2.out.next bV2)
  have sX2 := X2.out.size
  have ngb : gb ≠ g := by omega
  have lgb := kB.lt
  clear hV2 bV2 kB hgb hrange hOX hOY
  obtain ⟨c0, c1, c2, c3⟩ := blk4 KB.out
  by_cases hn7 : n2 < 7
  · go_wp2_with (fail)
    refine (pick_any g (k + 21) 2 V2 R3.out (by omega)).mono ?_
    rintro e wS ⟨yy, rfl, _, _, hw4, hr4⟩
    have XS := Lib.hid (X3.out.trans hw4)
    have RS := Lib.hid hr4
    have KS := Lib.hid (KB.out.wk hw4 ngb)
    have AS := Lib.hid (A3.out.wk hw4 lgW)
    clear hw4 hr4 c0 c1 c2 c3
    by_cases hyy : yy = 0
    · have t1 : (yy == 0) = true := by rw [hyy]; rfl
      go_upto_region 6 with (fail)
      have ssz := XS.out.size
      have lgS : g < wS.heap.size := by omega
      have lbS := KS.out.lt
      obtain ⟨U, hU⟩ : ∃ U, wS.alloc (.cells #[] 22) = U := ⟨_, rfl⟩
      have bU : Below wS.heap.size wS U := by subst hU; exact (Below.refl _ _).alloc (Nat.le_refl _) _
      have oU : U.ownsRow wS.heap.size 22 1 (.slice (some ⟨wS.heap.size, 0, none⟩) 0 0) 0 [] := by
        subst hU
        have := own_lit_K (w := wS) (base := wS.heap.size) (e := 22) [] (Nat.le_refl _) (by unfold maxLen; simp)
        simpa using this
      have OU := Lib.hid (LLo.empty oU)
      have XU := Lib.hid (Below.wk (g := g) bU)
      have RU := Lib.hid (RS.out.next bU)
      go_upto_region 7 with (fail)
      try rw [hU]
      clear hU bU oU
      go_wp2_with (fail)
      refine (pick_any g (k + 22) 3 U RU.out (by omega)).mono ?_
      rintro e w5 ⟨cnt, rfl, hc0, hc1, hw5, hr5⟩
      obtain ⟨cnt, rfl⟩ := Int.eq_ofNat_of_zero_le hc0
      have hcnt : cnt ≤ 2 := by omega
      have X5 := Lib.hid (XU.out.trans hw5)
      have R5 := Lib.hid hr5
      have O5 := Lib.hid (OU.out.wk_ hw5 lgS)
      clear hw5 hr5 hc0 hc1
      go_wp2
      go_loopg [8, 40] cnt (fun gg vs vi wr => ∃ (y : Nat) (RR : List (List Int)), y ≤ cnt ∧ cnt ≤ y + gg ∧ vi = .int .i64 y ∧ LLo wS.heap.size wr vs RR ∧ RR.length = y ∧ (∀ i, lsZ RR i ≤ 3) ∧ Wk g wS wr ∧ Rdr wr g (k + 23 + 4 * y))
      case atStart => exact ⟨0, [], Nat.zero_le _, by omega, rfl, O5.out, rfl, fun i => by simp [lsZ, fZ], X5.out, R5.out⟩
      case round =>
        obtain ⟨y, RR, hy, hgg, rfl, ho, hRl, hR3, hx, hrd⟩ := hrel
        have OW := Lib.hid ho
        have RL := Lib.hid hRl
        have R3' := Lib.hid hR3
        have XW := Lib.hid hx
        have RW := Lib.hid hrd
        have sW1 := hx.size
        clear ho hRl hR3 hx hrd
        obtain ⟨wo, rfl⟩ : ∃ x, x = wr := ⟨_, rfl⟩
        by_cases hlt : y < cnt
        · have KW := Lib.hid (KS.out.wk XW.out ngb)
          obtain ⟨V5, hV5⟩ : ∃ U, wo.alloc (.cells #[] 3) = U := ⟨_, rfl⟩
          have b5 : Below wo.heap.size wo V5 := by subst hV5; exact (Below.refl _ _).alloc (Nat.le_refl _) _
          have o5 : V5.ownsRow wo.heap.size 3 1 (.slice (some ⟨wo.heap.size, 0, none⟩) 0 0) 0 (([] : List Int).map (.int .i64)) := by
            subst hV5
            have := own_lit_K (w := wo) (base := wo.heap.size) (e := 3) [] (Nat.le_refl _) (by unfold maxLen; simp)
            simpa using this
          go_upto_region 10 with (fail)
          try rw [hV5]
          have O6 := Lib.hid o5
          have B5 := Lib.hid b5
          have RV5 := Lib.hid (RW.out.next b5)
          have sV5 := b5.size
          clear hV5 b5 o5
          go_wp2
          go_loopg [9, 44] 3 (fun gg vv vi w7 => ∃ (j : Nat) (L : List Int), j ≤ 3 ∧ 3 ≤ j + gg ∧ vi = .int .i64 j ∧ L.length = j ∧ w7.ownsRow wo.heap.size 3 1 vv j (L.map (.int .i64)) ∧ Wk g wo w7 ∧ Rdr w7 g (k + 23 + 4 * y + j))
          case atStart => exact ⟨0, [], by omega, by omega, rfl, rfl, O6.out, Below.wk B5.out, RV5.out⟩
          case round =>
            obtain ⟨j, L, hj, hgj, rfl, hL, hown, hwk, hrd⟩ := hrel
            have OI := Lib.hid hown
            have ZI := Lib.hid hwk
            have RI := Lib.hid hrd
            have HL := Lib.hid hL
            have hsz := hwk.size
            have K7 := Lib.hid (KW.out.wk hwk ngb)
            clear hown hwk hrd hL
            by_cases hlj : j < 3
            · obtain ⟨c0, c1, c2, c3⟩ := blk4 K7.out
              go_wp2_with (fail)
              refine (pick_any g (k + 23 + 4 * y + j) _ _ RI.out (by omega)).mono ?_
              rintro e w8 ⟨z, rfl, _, _, hw8, hr8⟩
              have Z8 := Lib.hid (ZI.out.trans hw8)
              have R8 := Lib.hid hr8
              have O8 := Lib.hid (OI.out.kept hw8.grown (.inr fun e => by have := (OI.out.lt g e).1; omega))
              have s8 := hw8.size
              clear hw8 hr8 OI ZI RI c0 c1 c2 c3
              have wr2 : Below w8.heap.size w8 (w8.alloc (.cells #[.int .i64 z] 3)) := (Below.refl _ _).alloc (Nat.le_refl _) _
              go_wp2_with (at_builtin; refine wpList_append_own _ rfl _ _ 22 rfl wo.heap.size 3 j0 (.int .i64 0) 1 8 Try.underlying22 hji hy0 hy1 hy2 rfl (by decide) _ _ _ rfl (O8.out.alloc _) ⟨w8.heap.size, 0, none⟩ 1 1 [.int .i64 z] rfl rfl (by intro j u hj; match j, hj with | 0, hj => simp at hj; subst hj; simp [Addr.add]) (by intro u hu; simp at hu; subst hu; rfl) (by unfold maxLen; omega) (by omega) (by simp; omega) ?_; intro v9 w9 hown9 hg9 _)
              have B9 := Lib.hid (((Below.refl wo.heap.size w8).trans (wr2.mono (by omega))).grown hg9 (by have := wr2.size; omega) (fun k hk => (O8.out.lt k hk).1))
              have O9 := Lib.hid (show w9.ownsRow wo.heap.size 3 1 v9 (j + 1) ((L ++ [z]).map (.int .i64)) by rw [List.map_append]; exact hown9)
              clear hown9 hg9 wr2
              go_wp2
              go_roundg (3 - (j + 1))
              case measure => omega
              case rel => exact ⟨j + 1, L ++ [z], by omega, by omega, by go_num, by simp [HL.out], O9.out, Z8.out.on B9.out (by omega), (R8.out.below B9.out (by omega)).more (by omega)⟩
            · have hjn : j = 3 := by omega
              subst hjn
              obtain ⟨A4, l4, q4, rfl, o4, n4, n5⟩ := SliceOut.of_row OI.out HL.out (by omega)
              have O4 := Lib.hid o4
              have OR := Lib.hid (OW.out.wk_ ZI.out lgS)
              obtain ⟨xs, hx1, hx2⟩ := OR.out
              have XO := Lib.hid hx1
              have LX := Lib.hid hx2
              obtain ⟨ys, hy1', _⟩ := OW.out
              have HY := Lib.hid hy1'
              have hlen : RR.length ≤ 3 := by rw [RL.out]; omega
              have EW := Lib.hid (XW.out.trans ZI.out)
              have sE := EW.out.size
              clear o4 hx1 hx2 hy1'
              go_wp2_with (at_builtin; refine wpList_append_own_at _ rfl _ _ 35 rfl wS.heap.size 22 i0 (.slice none 0 0) 1 24 Try.underlying35 hi hz0 hz1 hz2 rfl (by decide) _ _ _ rfl (XO.out.alloc _) ⟨_, 0, none⟩ 1 1 [.slice A4 l4 q4] rfl rfl (by intro i u hi; match i, hi with | 0, hi => simp at hi; subst hi; simp [Addr.add]) (by intro u hu; simp at hu; subst hu; rfl) (by unfold maxLen; omega) (by omega) (by simp; omega) ?_; intro v6 w6 hown6 hg6 _ hloc6; have HO6 := Lib.hid hown6; have HG6 := Lib.hid hg6; have HL6 := Lib.hid hloc6; have B6 := Lib.hid (((Below.refl wS.heap.size wr).alloc sE (.cells #[.slice A4 l4 q4] 22)).grown hg6 (Nat.le_trans sE (by simp)) (fun k hk => (XO.out.lt k hk).1)); clear hown6 hg6 hloc6)
              go_roundg (cnt - (y + 1))
              case measure => omega
              case rel =>
                refine ⟨y + 1, RR ++ [L], by omega, by omega, by go_num, LLs.more2 LX.out (O4.out.down sW1) n4 n5 (fun g' off hl e e' => ?_) (by simpa using HO6.out) HG6.out HL6.out, by simp [RL.out], lsZ_snoc R3'.out (by rw [HL.out]; omega), EW.out.on B6.out (Nat.le_refl _), (RI.out.below B6.out lgS).more (by omega)⟩
                obtain ⟨g2, off2, e2, hge, _⟩ := O4.out.2 hl
                rw [e] at e2
                simp only [Option.some.injEq, Addr.mk.injEq, and_true] at e2
                have := (HY.out.lt _ e').2
                omega
        · have hyc : y = cnt := by omega
          subst hyc
          go_wp2_with (fail)
          refine (pick_any g (k + 23 + 4 * y) 30 _ RW.out (by omega)).mono ?_
          rintro e w8 ⟨z, rfl, _, _, hw8, hr8⟩
          have X8 := Lib.hid (XW.out.trans hw8)
          have R8 := Lib.hid hr8
          have O8 := Lib.hid (OW.out.wk_ hw8 lgS)
          have s8 := X8.out.size
          have hlen : RR.length ≤ 2 := by rw [RL.out]; omega
          clear hw8 hr8
          by_cases hz0' : z = 0
          · subst hz0'
            obtain ⟨V9, hV9⟩ : ∃ U, w8.alloc (.cells #[.int .i64 0, .int .i64 5, .int .i64 (-1), .int .i64 9223372036854775807, .int .i64 1] 3) = U := ⟨_, rfl⟩
            have b9 : Below w8.heap.size w8 V9 := by subst hV9; exact (Below.refl _ _).alloc (Nat.le_refl _) _
            have i9 : Ints V9 V9.heap.size (some ⟨w8.heap.size, 0, none⟩) 5 [0, 5, -1, 9223372036854775807, 1] := by
              subst hV9
              have := own_lit_K (w := w8) (base := w8.heap.size) (e := 3) [.int .i64 0, .int .i64 5, .int .i64 (-1), .int .i64 9223372036854775807, .int .i64 1] (Nat.le_refl _) (by unfold maxLen; simp)
              exact ints_of_own (xs := [0, 5, -1, 9223372036854775807, 1]) (T := 3) (by simpa using this) rfl
            go_wp2_with (fail)
            try rw [hV9]
            refine (num_any g (k + 23 + 4 * y + 1) (some ⟨w8.heap.size, 0, none⟩) 5 5 V9.heap.size [0, 5, -1, 9223372036854775807, 1] V9 (R8.out.next b9) (by omega) i9 (fun a e => by cases e; show w8.heap.size ≠ g; omega) (by omega) (by omega)).mono ?_
            rintro e w9 ⟨jj, _, rfl, hw9, hr9⟩
            obtain ⟨NN, hNN⟩ : ∃ x, ([0, 5, -1, 9223372036854775807, 1] : List Int)[jj]?.getD 0 = x := ⟨_, rfl⟩
            rw [hNN]
            have X9 := Lib.hid (X8.out.trans ((Below.wk b9).trans hw9))
            have R9 := Lib.hid hr9
            have O9 := Lib.hid ((O8.out.next b9).wk_ hw9 lgS)
            have s9 := X9.out.size
            clear hw9 hr9 hNN b9 i9 hV9
            have KE := X9
            have KG := Lib.hid (KS.out.wk X9.out ngb)
            have AE := Lib.hid (AS.out.wk X9.out lgW)
            have K9 := Lib.hid (K0.out.wk (XS.out.trans X9.out) nK)
            obtain ⟨c0, c1, c2, c3⟩ := blk4 KG.out
            obtain ⟨d0, d1, d2, d3⟩ := blk4 K9.out
            have f0 := K9.out.frozen 0
            have f1 := K9.out.frozen 1
            have f2 := K9.out.frozen 2
            have f3 := K9.out.frozen 3
            go_wp2_with (fail)
            refine bodyPost_ret (v := .tuple #[.agg #[.int .i64 n2, .int .i64 o2, .slice A2' q2 ca2, .slice B2' q2 cb2], .int .i64 NN, _]) ?_ rfl ⟨_, _, _, rfl, (AE.out.store (b := w.heap.size) (by omega)).lower (by omega), ⟨RR, ((O9.out.wk_ (g := w.heap.size) (((((Wk.refl w.heap.size w9).set_ 0 _).set_ 1 _).set_ 2 _).set_ 3 _) (by omega)).downR (by omega)), by omega, R3'.out⟩, ((Below.wk BW.out).trans (XS.out.trans X9.out)).on (store4_below (Below.refl w.heap.size w9) (Nat.le_refl _)) (Nat.le_refl _), (R9.out.store K9.out noB0 nK).more (by omega)⟩
            exact results_cell_two (fn := Try.f55) rfl _ _ w.heap.size 27 _ _ _ _ rfl rfl rfl (store4_blk K9.out) Try.underlying27 rfl (by kernel_rfl)
          by_cases hz1' : z = 1
          · subst hz1'
            obtain ⟨V9, hV9⟩ : ∃ U, w8.alloc (.cells #[.int .i64 0, .int .i64 16, .int .i64 (-1)] 3) = U := ⟨_, rfl⟩
            have b9 : Below w8.heap.size w8 V9 := by subst hV9; exact (Below.refl _ _).alloc (Nat.le_refl _) _
            have i9 : Ints V9 V9.heap.size (some ⟨w8.heap.size, 0, none⟩) 3 [0, 16, -1] := by
              subst hV9
              have := own_lit_K (w := w8) (base := w8.heap.size) (e := 3) [.int .i64 0, .int .i64 16, .int .i64 (-1)] (Nat.le_refl _) (by unfold maxLen; simp)
              exact ints_of_own (xs := [0, 16, -1]) (T := 3) (by simpa using this) rfl
            go_wp2_with (fail)
            try rw [hV9]
            refine (num_any g (k + 23 + 4 * y + 1) (some ⟨w8.heap.size, 0, none⟩) 3 3 V9.heap.size [0, 16, -1] V9 (R8.out.next b9) (by omega) i9 (fun a e => by cases e; show w8.heap.size ≠ g; omega) (by omega) (by omega)).mono ?_
            rintro e w9 ⟨jj, _, rfl, hw9, hr9⟩
            obtain ⟨NN, hNN⟩ : ∃ x, ([0, 16, -1] : List Int)[jj]?.getD 0 = x := ⟨_, rfl⟩
            rw [hNN]
            have X9 := Lib.hid (X8.out.trans ((Below.wk b9).trans hw9))
            have R9 := Lib.hid hr9
            have O9 := Lib.hid ((O8.out.next b9).wk_ hw9 lgS)
            have s9 := X9.out.size
            have s8' := b9.size
            have s9' := hw9.size
            clear hw9 hr9 hNN b9 i9 hV9
            obtain ⟨V10, hV10⟩ : ∃ U, w9.alloc (.cells #[.int .i64 0, .int .i64 NN] 3) = U := ⟨_, rfl⟩
            have b10 : Below w9.heap.size w9 V10 := by subst hV10; exact (Below.refl _ _).alloc (Nat.le_refl _) _
            have o10 : V10.ownsRow w9.heap.size 3 1 (.slice (some ⟨w9.heap.size, 0, none⟩) 2 2) 2 (([0, NN] : List Int).map (.int .i64)) := by
              subst hV10
              have := own_lit_K (w := w9) (base := w9.heap.size) (e := 3) [.int .i64 0, .int .i64 NN] (Nat.le_refl _) (by unfold maxLen; simp)
              simpa using this
            have O4 := Lib.hid (own_of_row o10 rfl)
            have OR := Lib.hid (O9.out.next b10)
            have X10 := Lib.hid (X9.out.trans (Below.wk b10))
            have R10 := Lib.hid (R9.out.next b10)
            have s10 := X10.out.size
            obtain ⟨xs, hx1, hx2⟩ := OR.out
            have XO := Lib.hid hx1
            have LX := Lib.hid hx2
            obtain ⟨ys, hy1', _⟩ := O9.out
            have HY := Lib.hid hy1'
            clear hx1 hx2 hy1' b10 o10
            go_wp2_with (at_builtin; (try rw [hV10]); refine wpList_append_own_at _ rfl _ _ 35 rfl wS.heap.size 22 i0 (.slice none 0 0) 1 24 Try.underlying35 hi hz0 hz1 hz2 rfl (by decide) _ _ _ rfl (XO.out.alloc _) ⟨_, 0, none⟩ 1 1 [.slice (some ⟨w9.heap.size, 0, none⟩) 2 2] rfl rfl (by intro i u hi; match i, hi with | 0, hi => simp at hi; subst hi; simp [Addr.add]) (by intro u hu; simp at hu; subst hu; rfl) (by unfold maxLen; omega) (by omega) (by simp; omega) ?_; intro v6 w6 hown6 hg6 _ hloc6; have HO6 := Lib.hid hown6; have HG6 := Lib.hid hg6; have HL6 := Lib.hid hloc6; have B6 := Lib.hid (((Below.refl wS.heap.size V10).alloc s10 (.cells #[.slice (some ⟨w9.heap.size, 0, none⟩) 2 2] 22)).grown hg6 (Nat.le_trans s10 (by simp)) (fun k hk => (XO.out.lt k hk).1)); have OE := Lib.hid (show LLo wS.heap.size w6 v6 (RR ++ [[0, NN]]) from LLs.more2 LX.out (O4.out.down s9) (Nat.le_refl _) (by omega) (fun g' off hl e e' => by simp only [Option.some.injEq, Addr.mk.injEq, and_true] at e; have := (HY.out.lt _ e').2; omega) (by simpa using HO6.out) HG6.out HL6.out); have X6 := Lib.hid (X10.out.on B6.out (Nat.le_refl _)); have R6 := Lib.hid (R10.out.below B6.out lgS); clear hown6 hg6 hloc6; have KG := Lib.hid (KS.out.wk X6.out ngb); obtain ⟨c0, c1, c2, c3⟩ := blk4 KG.out; have K9 := Lib.hid (K0.out.wk (XS.out.trans X6.out) nK); obtain ⟨d0, d1, d2, d3⟩ := blk4 K9.out; have f0 := K9.out.frozen 0; have f1 := K9.out.frozen 1; have f2 := K9.out.frozen 2; have f3 := K9.out.frozen 3)
            have AE := Lib.hid (AS.out.wk X6.out lgW)
            refine bodyPost_ret (v := .tuple #[.agg #[.int .i64 n2, .int .i64 o2, .slice A2' q2 ca2, .slice B2' q2 cb2], .int .i64 3, v6]) ?_ rfl ⟨_, _, _, rfl, (AE.out.store (b := w.heap.size) (by omega)).lower (by omega), ⟨RR ++ [[0, NN]], ((OE.out.wk_ (g := w.heap.size) (((((Wk.refl w.heap.size w6).set_ 0 _).set_ 1 _).set_ 2 _).set_ 3 _) (by omega)).downR (by omega)), by simp; omega, lsZ_snoc R3'.out (by simp)⟩, ((Below.wk BW.out).trans (XS.out.trans X6.out)).on (store4_below (Below.refl w.heap.size w6) (Nat.le_refl _)) (Nat.le_refl _), (R6.out.store K9.out noB0 nK).more (by omega)⟩
            exact results_cell_two (fn := Try.f55) rfl _ _ w.heap.size 27 _ _ _ _ rfl rfl rfl (store4_blk K9.out) Try.underlying27 rfl (by kernel_rfl)
          have t0 : (z == 0) = false := by rw [beq_eq_false_iff_ne]; exact hz0'
          have t1' : (z == 1) = false := by rw [beq_eq_false_iff_ne]; exact hz1'
          have KE := X8
          have KG := Lib.hid (KS.out.wk X8.out ngb)
          have AE := Lib.hid (AS.out.wk X8.out lgW)
          have K9 := Lib.hid (K0.out.wk (XS.out.trans X8.out) nK)
          obtain ⟨c0, c1, c2, c3⟩ := blk4 KG.out
          obtain ⟨d0, d1, d2, d3⟩ := blk4 K9.out
          have f0 := K9.out.frozen 0
          have f1 := K9.out.frozen 1
          have f2 := K9.out.frozen 2
          have f3 := K9.out.frozen 3
          go_wp2_with (fail)
          refine bodyPost_ret (v := .tuple #[.agg #[.int .i64 n2, .int .i64 o2, .slice A2' q2 ca2, .slice B2' q2 cb2], .int .i64 3, _]) ?_ rfl ⟨_, _, _, rfl, (AE.out.store (b := w.heap.size) (by omega)).lower (by omega), ⟨RR, ((O8.out.wk_ (g := w.heap.size) (((((Wk.refl w.heap.size w8).set_ 0 _).set_ 1 _).set_ 2 _).set_ 3 _) (by omega)).downR (by omega)), by omega, R3'.out⟩, ((Below.wk BW.out).trans (XS.out.trans X8.out)).on (store4_below (Below.refl w.heap.size w8) (Nat.le_refl _)) (Nat.le_refl _), (R8.out.store K9.out noB0 nK).more (by omega)⟩
          exact results_cell_two (fn := Try.f55) rfl _ _ w.heap.size 27 _ _ _ _ rfl rfl rfl (store4_blk K9.out) Try.underlying27 rfl (by kernel_rfl)
    · have t1 : (yy == 0) = false := by rw [beq_eq_false_iff_ne]; exact hyy
      go_upto_region 6 with (fail)
      have ssz := XS.out.size
      have lgS : g < wS.heap.size := by omega
      have lbS := KS.out.lt
      obtain ⟨U, hU⟩ : ∃ U, wS.alloc (.cells #[] 22) = U := ⟨_, rfl⟩
      have bU : Below wS.heap.size wS U := by subst hU; exact (Below.refl _ _).alloc (Nat.le_refl _) _
      have oU : U.ownsRow wS.heap.size 22 1 (.slice (some ⟨wS.heap.size, 0, none⟩) 0 0) 0 [] := by
        subst hU
        have := own_lit_K (w := wS) (base := wS.heap.size) (e := 22) [] (Nat.le_refl _) (by unfold maxLen; simp)
        simpa using this
      have OU := Lib.hid (LLo.empty oU)
      have XU := Lib.hid (Below.wk (g := g) bU)
      have RU := Lib.hid (RS.out.next bU)
      go_upto_region 7 with (fail)
      try rw [hU]
      clear hU bU oU
      go_wp2_with (fail)
      refine (pick_any g (k + 22) 3 U RU.out (by omega)).mono ?_
      rintro e w5 ⟨cnt, rfl, hc0, hc1, hw5, hr5⟩
      obtain ⟨cnt, rfl⟩ := Int.eq_ofNat_of_zero_le hc0
      have hcnt : cnt ≤ 2 := by omega
      have X5 := Lib.hid (XU.out.trans hw5)
      have R5 := Lib.hid hr5
      have O5 := Lib.hid (OU.out.wk_ hw5 lgS)
      clear hw5 hr5 hc0 hc1
      go_wp2
      go_loopg [8, 40] cnt (fun gg vs vi wr => ∃ (y : Nat) (RR : List (List Int)), y ≤ cnt ∧ cnt ≤ y + gg ∧ vi = .int .i64 y ∧ LLo wS.heap.size wr vs RR ∧ RR.length = y ∧ (∀ i, lsZ RR i ≤ 3) ∧ Wk g wS wr ∧ Rdr wr g (k + 23 + 4 * y))
      case atStart => exact ⟨0, [], Nat.zero_le _, by omega, rfl, O5.out, rfl, fun i => by simp [lsZ, fZ], X5.out, R5.out⟩
      case round =>
        obtain ⟨y, RR, hy, hgg, rfl, ho, hRl, hR3, hx, hrd⟩ := hrel
        have OW := Lib.hid ho
        have RL := Lib.hid hRl
        have R3' := Lib.hid hR3
        have XW := Lib.hid hx
        have RW := Lib.hid hrd
        have sW1 := hx.size
        clear ho hRl hR3 hx hrd
        obtain ⟨wo, rfl⟩ : ∃ x, x = wr := ⟨_, rfl⟩
        by_cases hlt : y < cnt
        · have KW := Lib.hid (KS.out.wk XW.out ngb)
          obtain ⟨V5, hV5⟩ : ∃ U, wo.alloc (.cells #[] 3) = U := ⟨_, rfl⟩
          have b5 : Below wo.heap.size wo V5 := by subst hV5; exact (Below.refl _ _).alloc (Nat.le_refl _) _
          have o5 : V5.ownsRow wo.heap.size 3 1 (.slice (some ⟨wo.heap.size, 0, none⟩) 0 0) 0 (([] : List Int).map (.int .i64)) := by
            subst hV5
            have := own_lit_K (w := wo) (base := wo.heap.size) (e := 3) [] (Nat.le_refl _) (by unfold maxLen; simp)
            simpa using this
          go_upto_region 10 with (fail)
          try rw [hV5]
          have O6 := Lib.hid o5
          have B5 := Lib.hid b5
          have RV5 := Lib.hid (RW.out.next b5)
          have sV5 := b5.size
          clear hV5 b5 o5
          go_wp2
          go_loopg [9, 44] 2 (fun gg vv vi w7 => ∃ (j : Nat) (L : List Int), j ≤ 2 ∧ 2 ≤ j + gg ∧ vi = .int .i64 j ∧ L.length = j ∧ w7.ownsRow wo.heap.size 3 1 vv j (L.map (.int .i64)) ∧ Wk g wo w7 ∧ Rdr w7 g (k + 23 + 4 * y + j))
          case atStart => exact ⟨0, [], by omega, by omega, rfl, rfl, O6.out, Below.wk B5.out, RV5.out⟩
          case round =>
            obtain ⟨j, L, hj, hgj, rfl, hL, hown, hwk, hrd⟩ := hrel
            have OI := Lib.hid hown
            have ZI := Lib.hid hwk
            have RI := Lib.hid hrd
            have HL := Lib.hid hL
            have hsz := hwk.size
            have K7 := Lib.hid (KW.out.wk hwk ngb)
            clear hown hwk hrd hL
            by_cases hlj : j < 2
            · obtain ⟨c0, c1, c2, c3⟩ := blk4 K7.out
              go_wp2_with (fail)
              refine (pick_any g (k + 23 + 4 * y + j) _ _ RI.out (by omega)).mono ?_
              rintro e w8 ⟨z, rfl, _, _, hw8, hr8⟩
              have Z8 := Lib.hid (ZI.out.trans hw8)
              have R8 := Lib.hid hr8
              have O8 := Lib.hid (OI.out.kept hw8.grown (.inr fun e => by have := (OI.out.lt g e).1; omega))
              have s8 := hw8.size
              clear hw8 hr8 OI ZI RI c0 c1 c2 c3
              have wr2 : Below w8.heap.size w8 (w8.alloc (.cells #[.int .i64 z] 3)) := (Below.refl _ _).alloc (Nat.le_refl _) _
              go_wp2_with (at_builtin; refine wpList_append_own _ rfl _ _ 22 rfl wo.heap.size 3 j0 (.int .i64 0) 1 8 Try.underlying22 hji hy0 hy1 hy2 rfl (by decide) _ _ _ rfl (O8.out.alloc _) ⟨w8.heap.size, 0, none⟩ 1 1 [.int .i64 z] rfl rfl (by intro j u hj; match j, hj with | 0, hj => simp at hj; subst hj; simp [Addr.add]) (by intro u hu; simp at hu; subst hu; rfl) (by unfold maxLen; omega) (by omega) (by simp; omega) ?_; intro v9 w9 hown9 hg9 _)
              have B9 := Lib.hid (((Below.refl wo.heap.size w8).trans (wr2.mono (by omega))).grown hg9 (by have := wr2.size; omega) (fun k hk => (O8.out.lt k hk).1))
              have O9 := Lib.hid (show w9.ownsRow wo.heap.size 3 1 v9 (j + 1) ((L ++ [z]).map (.int .i64)) by rw [List.map_append]; exact hown9)
              clear hown9 hg9 wr2
              go_wp2
              go_roundg (2 - (j + 1))
              case measure => omega
              case rel => exact ⟨j + 1, L ++ [z], by omega, by omega, by go_num, by simp [HL.out], O9.out, Z8.out.on B9.out (by omega), (R8.out.below B9.out (by omega)).more (by omega)⟩
            · have hjn : j = 2 := by omega
              subst hjn
              obtain ⟨A4, l4, q4, rfl, o4, n4, n5⟩ := SliceOut.of_row OI.out HL.out (by omega)
              have O4 := Lib.hid o4
              have OR := Lib.hid (OW.out.wk_ ZI.out lgS)
              obtain ⟨xs, hx1, hx2⟩ := OR.out
              have XO := Lib.hid hx1
              have LX := Lib.hid hx2
              obtain ⟨ys, hy1', _⟩ := OW.out
              have HY := Lib.hid hy1'
              have hlen : RR.length ≤ 3 := by rw [RL.out]; omega
              have EW := Lib.hid (XW.out.trans ZI.out)
              have sE := EW.out.size
              clear o4 hx1 hx2 hy1'
              go_wp2_with (at_builtin; refine wpList_append_own_at _ rfl _ _ 35 rfl wS.heap.size 22 i0 (.slice none 0 0) 1 24 Try.underlying35 hi hz0 hz1 hz2 rfl (by decide) _ _ _ rfl (XO.out.alloc _) ⟨_, 0, none⟩ 1 1 [.slice A4 l4 q4] rfl rfl (by intro i u hi; match i, hi with | 0, hi => simp at hi; subst hi; simp [Addr.add]) (by intro u hu; simp at hu; subst hu; rfl) (by unfold maxLen; omega) (by omega) (by simp; omega) ?_; intro v6 w6 hown6 hg6 _ hloc6; have HO6 := Lib.hid hown6; have HG6 := Lib.hid hg6; have HL6 := Lib.hid hloc6; have B6 := Lib.hid (((Below.refl wS.heap.size wr).alloc sE (.cells #[.slice A4 l4 q4] 22)).grown hg6 (Nat.le_trans sE (by simp)) (fun k hk => (XO.out.lt k hk).1)); clear hown6 hg6 hloc6)
              go_roundg (cnt - (y + 1))
              case measure => omega
              case rel =>
                refine ⟨y + 1, RR ++ [L], by omega, by omega, by go_num, LLs.more2 LX.out (O4.out.down sW1) n4 n5 (fun g' off hl e e' => ?_) (by simpa using HO6.out) HG6.out HL6.out, by simp [RL.out], lsZ_snoc R3'.out (by rw [HL.out]; omega), EW.out.on B6.out (Nat.le_refl _), (RI.out.below B6.out lgS).more (by omega)⟩
                obtain ⟨g2, off2, e2, hge, _⟩ := O4.out.2 hl
                rw [e] at e2
                simp only [Option.some.injEq, Addr.mk.injEq, and_true] at e2
                have := (HY.out.lt _ e').2
                omega
        · have hyc : y = cnt := by omega
          subst hyc
          go_wp2_with (fail)
          refine (pick_any g (k + 23 + 4 * y) 30 _ RW.out (by omega)).mono ?_
          rintro e w8 ⟨z, rfl, _, _, hw8, hr8⟩
          have X8 := Lib.hid (XW.out.trans hw8)
          have R8 := Lib.hid hr8
          have O8 := Lib.hid (OW.out.wk_ hw8 lgS)
          have s8 := X8.out.size
          have hlen : RR.length ≤ 2 := by rw [RL.out]; omega
          clear hw8 hr8
          by_cases hz0' : z = 0
          · subst hz0'
            obtain ⟨V9, hV9⟩ : ∃ U, w8.alloc (.cells #[.int .i64 0, .int .i64 5, .int .i64 (-1), .int .i64 9223372036854775807, .int .i64 1] 3) = U := ⟨_, rfl⟩
            have b9 : Below w8.heap.size w8 V9 := by subst hV9; exact (Below.refl _ _).alloc (Nat.le_refl _) _
            have i9 : Ints V9 V9.heap.size (some ⟨w8.heap.size, 0, none⟩) 5 [0, 5, -1, 9223372036854775807, 1] := by
              subst hV9
              have := own_lit_K (w := w8) (base := w8.heap.size) (e := 3) [.int .i64 0, .int .i64 5, .int .i64 (-1), .int .i64 9223372036854775807, .int .i64 1] (Nat.le_refl _) (by unfold maxLen; simp)
              exact ints_of_own (xs := [0, 5, -1, 9223372036854775807, 1]) (T := 3) (by simpa using this) rfl
            go_wp2_with (fail)
            try rw [hV9]
            refine (num_any g (k + 23 + 4 * y + 1) (some ⟨w8.heap.size, 0, none⟩) 5 5 V9.heap.size [0, 5, -1, 9223372036854775807, 1] V9 (R8.out.next b9) (by omega) i9 (fun a e => by cases e; show w8.heap.size ≠ g; omega) (by omega) (by omega)).mono ?_
            rintro e w9 ⟨jj, _, rfl, hw9, hr9⟩
            obtain ⟨NN, hNN⟩ : ∃ x, ([0, 5, -1, 9223372036854775807, 1] : List Int)[jj]?.getD 0 = x := ⟨_, rfl⟩
            rw [hNN]
            have X9 := Lib.hid (X8.out.trans ((Below.wk b9).trans hw9))
            have R9 := Lib.hid hr9
            have O9 := Lib.hid ((O8.out.next b9).wk_ hw9 lgS)
            have s9 := X9.out.size
            clear hw9 hr9 hNN b9 i9 hV9
            have KE := X9
            have KG := Lib.hid (KS.out.wk X9.out ngb)
            have AE := Lib.hid (AS.out.wk X9.out lgW)
            have K9 := Lib.hid (K0.out.wk (XS.out.trans X9.out) nK)
            obtain ⟨c0, c1, c2, c3⟩ := blk4 KG.out
            obtain ⟨d0, d1, d2, d3⟩ := blk4 K9.out
            have f0 := K9.out.frozen 0
            have f1 := K9.out.frozen 1
            have f2 := K9.out.frozen 2
            have f3 := K9.out.frozen 3
            go_wp2_with (fail)
            refine bodyPost_ret (v := .tuple #[.agg #[.int .i64 n2, .int .i64 o2, .slice A2' q2 ca2, .slice B2' q2 cb2], .int .i64 NN, _]) ?_ rfl ⟨_, _, _, rfl, (AE.out.store (b := w.heap.size) (by omega)).lower (by omega), ⟨RR, ((O9.out.wk_ (g := w.heap.size) (((((Wk.refl w.heap.size w9).set_ 0 _).set_ 1 _).set_ 2 _).set_ 3 _) (by omega)).downR (by omega)), by omega, R3'.out⟩, ((Below.wk BW.out).trans (XS.out.trans X9.out)).on (store4_below (Below.refl w.heap.size w9) (Nat.le_refl _)) (Nat.le_refl _), (R9.out.store K9.out noB0 nK).more (by omega)⟩
            exact results_cell_two (fn := Try.f55) rfl _ _ w.heap.size 27 _ _ _ _ rfl rfl rfl (store4_blk K9.out) Try.underlying27 rfl (by kernel_rfl)
          by_cases hz1' : z = 1
          · subst hz1'
            obtain ⟨V9, hV9⟩ : ∃ U, w8.alloc (.cells #[.int .i64 0, .int .i64 16, .int .i64 (-1)] 3) = U := ⟨_, rfl⟩
            have b9 : Below w8.heap.size w8 V9 := by subst hV9; exact (Below.refl _ _).alloc (Nat.le_refl _) _
            have i9 : Ints V9 V9.heap.size (some ⟨w8.heap.size, 0, none⟩) 3 [0, 16, -1] := by
              subst hV9
              have := own_lit_K (w := w8) (base := w8.heap.size) (e := 3) [.int .i64 0, .int .i64 16, .int .i64 (-1)] (Nat.le_refl _) (by unfold maxLen; simp)
              exact ints_of_own (xs := [0, 16, -1]) (T := 3) (by simpa using this) rfl
            go_wp2_with (fail)
            try rw [hV9]
            refine (num_any g (k + 23 + 4 * y + 1) (some ⟨w8.heap.size, 0, none⟩) 3 3 V9.heap.size [0, 16, -1] V9 (R8.out.next b9) (by omega) i9 (fun a e => by cases e; show w8.heap.size ≠ g; omega) (by omega) (by omega)).mono ?_
            rintro e w9 ⟨jj, _, rfl, hw9, hr9⟩
            obtain ⟨NN, hNN⟩ : ∃ x, ([0, 16, -1] : List Int)[jj]?.getD 0 = x := ⟨_, rfl⟩
            rw [hNN]
            have X9 := Lib.hid (X8.out.trans ((Below.wk b9).trans hw9))
            have R9 := Lib.hid hr9
            have O9 := Lib.hid ((O8.out.next b9).wk_ hw9 lgS)
            have s9 := X9.out.size
            have s8' := b9.size
            have s9' := hw9.size
            clear hw9 hr9 hNN b9 i9 hV9
            obtain ⟨V10, hV10⟩ : ∃ U, w9.alloc (.cells #[.int .i64 0, .int .i64 NN] 3) = U := ⟨_, rfl⟩
            have b10 : Below w9.heap.size w9 V10 := by subst hV10; exact (Below.refl _ _).alloc (Nat.le_refl _) _
            have o10 : V10.ownsRow w9.heap.size 3 1 (.slice (some ⟨w9.heap.size, 0, none⟩) 2 2) 2 (([0, NN] : List Int).map (.int .i64)) := by
              subst hV10
              have := own_lit_K (w := w9) (base := w9.heap.size) (e := 3) [.int .i64 0, .int .i64 NN] (Nat.le_refl _) (by unfold maxLen; simp)
              simpa using this
            have O4 := Lib.hid (own_of_row o10 rfl)
            have OR := Lib.hid (O9.out.next b10)
            have X10 := Lib.hid (X9.out.trans (Below.wk b10))
            have R10 := Lib.hid (R9.out.next b10)
            have s10 := X10.out.size
            obtain ⟨xs, hx1, hx2⟩ := OR.out
            have XO := Lib.hid hx1
            have LX := Lib.hid hx2
            obtain ⟨ys, hy1', _⟩ := O9.out
            have HY := Lib.hid hy1'
            clear hx1 hx2 hy1' b10 o10
            go_wp2_with (at_builtin; (try rw [hV10]); refine wpList_append_own_at _ rfl _ _ 35 rfl wS.heap.size 22 i0 (.slice none 0 0) 1 24 Try.underlying35 hi hz0 hz1 hz2 rfl (by decide) _ _ _ rfl (XO.out.alloc _) ⟨_, 0, none⟩ 1 1 [.slice (some ⟨w9.heap.size, 0, none⟩) 2 2] rfl rfl (by intro i u hi; match i, hi with | 0, hi => simp at hi; subst hi; simp [Addr.add]) (by intro u hu; simp at hu; subst hu; rfl) (by unfold maxLen; omega) (by omega) (by simp; omega) ?_; intro v6 w6 hown6 hg6 _ hloc6; have HO6 := Lib.hid hown6; have HG6 := Lib.hid hg6; have HL6 := Lib.hid hloc6; have B6 := Lib.hid (((Below.refl wS.heap.size V10).alloc s10 (.cells #[.slice (some ⟨w9.heap.size, 0, none⟩) 2 2] 22)).grown hg6 (Nat.le_trans s10 (by simp)) (fun k hk => (XO.out.lt k hk).1)); have OE := Lib.hid (show LLo wS.heap.size w6 v6 (RR ++ [[0, NN]]) from LLs.more2 LX.out (O4.out.down s9) (Nat.le_refl _) (by omega) (fun g' off hl e e' => by simp only [Option.some.injEq, Addr.mk.injEq, and_true] at e; have := (HY.out.lt _ e').2; omega) (by simpa using HO6.out) HG6.out HL6.out); have X6 := Lib.hid (X10.out.on B6.out (Nat.le_refl _)); have R6 := Lib.hid (R10.out.below B6.out lgS); clear hown6 hg6 hloc6; have KG := Lib.hid (KS.out.wk X6.out ngb); obtain ⟨c0, c1, c2, c3⟩ := blk4 KG.out; have K9 := Lib.hid (K0.out.wk (XS.out.trans X6.out) nK); obtain ⟨d0, d1, d2, d3⟩ := blk4 K9.out; have f0 := K9.out.frozen 0; have f1 := K9.out.frozen 1; have f2 := K9.out.frozen 2; have f3 := K9.out.frozen 3)
            have AE := Lib.hid (AS.out.wk X6.out lgW)
            refine bodyPost_ret (v := .tuple #[.agg #[.int .i64 n2, .int .i64 o2, .slice A2' q2 ca2, .slice B2' q2 cb2], .int .i64 2, v6]) ?_ rfl ⟨_, _, _, rfl, (AE.out.store (b := w.heap.size) (by omega)).lower (by omega), ⟨RR ++ [[0, NN]], ((OE.out.wk_ (g := w.heap.size) (((((Wk.refl w.heap.size w6).set_ 0 _).set_ 1 _).set_ 2 _).set_ 3 _) (by omega)).downR (by omega)), by simp; omega, lsZ_snoc R3'.out (by simp)⟩, ((Below.wk BW.out).trans (XS.out.trans X6.out)).on (store4_below (Below.refl w.heap.size w6) (Nat.le_refl _)) (Nat.le_refl _), (R6.out.store K9.out noB0 nK).more (by omega)⟩
            exact results_cell_two (fn := Try.f55) rfl _ _ w.heap.size 27 _ _ _ _ rfl rfl rfl (store4_blk K9.out) Try.underlying27 rfl (by kernel_rfl)
          have t0 : (z == 0) = false := by rw [beq_eq_false_iff_ne]; exact hz0'
          have t1' : (z == 1) = false := by rw [beq_eq_false_iff_ne]; exact hz1'
          have KE := X8
          have KG := Lib.hid (KS.out.wk X8.out ngb)
          have AE := Lib.hid (AS.out.wk X8.out lgW)
          have K9 := Lib.hid (K0.out.wk (XS.out.trans X8.out) nK)
          obtain ⟨c0, c1, c2, c3⟩ := blk4 KG.out
          obtain ⟨d0, d1, d2, d3⟩ := blk4 K9.out
          have f0 := K9.out.frozen 0
          have f1 := K9.out.frozen 1
          have f2 := K9.out.frozen 2
          have f3 := K9.out.frozen 3
          go_wp2_with (fail)
          refine bodyPost_ret (v := .tuple #[.agg #[.int .i64 n2, .int .i64 o2, .slice A2' q2 ca2, .slice B2' q2 cb2], .int .i64 2, _]) ?_ rfl ⟨_, _, _, rfl, (AE.out.store (b := w.heap.size) (by omega)).lower (by omega), ⟨RR, ((O8.out.wk_ (g := w.heap.size) (((((Wk.refl w.heap.size w8).set_ 0 _).set_ 1 _).set_ 2 _).set_ 3 _) (by omega)).downR (by omega)), by omega, R3'.out⟩, ((Below.wk BW.out).trans (XS.out.trans X8.out)).on (store4_below (Below.refl w.heap.size w8) (Nat.le_refl _)) (Nat.le_refl _), (R8.out.store K9.out noB0 nK).more (by omega)⟩
          exact results_cell_two (fn := Try.f55) rfl _ _ w.heap.size 27 _ _ _ _ rfl rfl rfl (store4_blk K9.out) Try.underlying27 rfl (by kernel_rfl)
  · go_upto_region 6 with (fail)
    obtain ⟨wS, rfl⟩ : ∃ x, x = V2 := ⟨_, rfl⟩
    have XS := X3
    have RS := Lib.hid (R3.out.more (k' := k + 22) (by omega))
    have KS := KB
    have AS := A3
    clear c0 c1 c2 c3
    have ssz := XS.out.size
    have lgS : g < wS.heap.size := by omega
    have lbS := KS.out.lt
    obtain ⟨U, hU⟩ : ∃ U, wS.alloc (.cells #[] 22) = U := ⟨_, rfl⟩
    have bU : Below wS.heap.size wS U := by subst hU; exact (Below.refl _ _).alloc (Nat.le_refl _) _
    have oU : U.ownsRow wS.heap.size 22 1 (.slice (some ⟨wS.heap.size, 0, none⟩) 0 0) 0 [] := by
      subst hU
      have := own_lit_K (w := wS) (base := wS.heap.size) (e := 22) [] (Nat.le_refl _) (by unfold maxLen; simp)
      simpa using this
    have OU := Lib.hid (LLo.empty oU)
    have XU := Lib.hid (Below.wk (g := g) bU)
    have RU := Lib.hid (RS.out.next bU)
    go_upto_region 7 with (fail)
    try rw [hU]
    clear hU bU oU
    go_wp2_with (fail)
    refine (pick_any g (k + 22) 3 U RU.out (by omega)).mono ?_
    rintro e w5 ⟨cnt, rfl, hc0, hc1, hw5, hr5⟩
    obtain ⟨cnt, rfl⟩ := Int.eq_ofNat_of_zero_le hc0
    have hcnt : cnt ≤ 2 := by omega
    have X5 := Lib.hid (XU.out.trans hw5)
    have R5 := Lib.hid hr5
    have O5 := Lib.hid (OU.out.wk_ hw5 lgS)
    clear hw5 hr5 hc0 hc1
    go_wp2
    go_loopg [8, 40] cnt (fun gg vs vi wr => ∃ (y : Nat) (RR : List (List Int)), y ≤ cnt ∧ cnt ≤ y + gg ∧ vi = .int .i64 y ∧ LLo wS.heap.size wr vs RR ∧ RR.length = y ∧ (∀ i, lsZ RR i ≤ 3) ∧ Wk g wS wr ∧ Rdr wr g (k + 23 + 4 * y))
    case atStart => exact ⟨0, [], Nat.zero_le _, by omega, rfl, O5.out, rfl, fun i => by simp [lsZ, fZ], X5.out, R5.out⟩
    case round =>
      obtain ⟨y, RR, hy, hgg, rfl, ho, hRl, hR3, hx, hrd⟩ := hrel
      have OW := Lib.hid ho
      have RL := Lib.hid hRl
      have R3' := Lib.hid hR3
      have XW := Lib.hid hx
      have RW := Lib.hid hrd
      have sW1 := hx.size
      clear ho hRl hR3 hx hrd
      obtain ⟨wo, rfl⟩ : ∃ x, x = wr := ⟨_, rfl⟩
      by_cases hlt : y < cnt
      · have KW := Lib.hid (KS.out.wk XW.out ngb)
        obtain ⟨V5, hV5⟩ : ∃ U, wo.alloc (.cells #[] 3) = U := ⟨_, rfl⟩
        have b5 : Below wo.heap.size wo V5 := by subst hV5; exact (Below.refl _ _).alloc (Nat.le_refl _) _
        have o5 : V5.ownsRow wo.heap.size 3 1 (.slice (some ⟨wo.heap.size, 0, none⟩) 0 0) 0 (([] : List Int).map (.int .i64)) := by
          subst hV5
          have := own_lit_K (w := wo) (base := wo.heap.size) (e := 3) [] (Nat.le_refl _) (by unfold maxLen; simp)
          simpa using this
        go_upto_region 10 with (fail)
        try rw [hV5]
        have O6 := Lib.hid o5
        have B5 := Lib.hid b5
        have RV5 := Lib.hid (RW.out.next b5)
        have sV5 := b5.size
        clear hV5 b5 o5
        go_wp2
        go_loopg [9, 44] 2 (fun gg vv vi w7 => ∃ (j : Nat) (L : List Int), j ≤ 2 ∧ 2 ≤ j + gg ∧ vi = .int .i64 j ∧ L.length = j ∧ w7.ownsRow wo.heap.size 3 1 vv j (L.map (.int .i64)) ∧ Wk g wo w7 ∧ Rdr w7 g (k + 23 + 4 * y + j))
        case atStart => exact ⟨0, [], by omega, by omega, rfl, rfl, O6.out, Below.wk B5.out, RV5.out⟩
        case round =>
          obtain ⟨j, L, hj, hgj, rfl, hL, hown, hwk, hrd⟩ := hrel
          have OI := Lib.hid hown
          have ZI := Lib.hid hwk
          have RI := Lib.hid hrd
          have HL := Lib.hid hL
          have hsz := hwk.size
          have K7 := Lib.hid (KW.out.wk hwk ngb)
          clear hown hwk hrd hL
          by_cases hlj : j < 2
          · obtain ⟨c0, c1, c2, c3⟩ := blk4 K7.out
            go_wp2_with (fail)
            refine (pick_any g (k + 23 + 4 * y + j) _ _ RI.out (by omega)).mono ?_
            rintro e w8 ⟨z, rfl, _, _, hw8, hr8⟩
            have Z8 := Lib.hid (ZI.out.trans hw8)
            have R8 := Lib.hid hr8
            have O8 := Lib.hid (OI.out.kept hw8.grown (.inr fun e => by have := (OI.out.lt g e).1; omega))
            have s8 := hw8.size
            clear hw8 hr8 OI ZI RI c0 c1 c2 c3
            have wr2 : Below w8.heap.size w8 (w8.alloc (.cells #[.int .i64 z] 3)) := (Below.refl _ _).alloc (Nat.le_refl _) _
            go_wp2_with (at_builtin; refine wpList_append_own _ rfl _ _ 22 rfl wo.heap.size 3 j0 (.int .i64 0) 1 8 Try.underlying22 hji hy0 hy1 hy2 rfl (by decide) _ _ _ rfl (O8.out.alloc _) ⟨w8.heap.size, 0, none⟩ 1 1 [.int .i64 z] rfl rfl (by intro j u hj; match j, hj with | 0, hj => simp at hj; subst hj; simp [Addr.add]) (by intro u hu; simp at hu; subst hu; rfl) (by unfold maxLen; omega) (by omega) (by simp; omega) ?_; intro v9 w9 hown9 hg9 _)
            have B9 := Lib.hid (((Below.refl wo.heap.size w8).trans (wr2.mono (by omega))).grown hg9 (by have := wr2.size; omega) (fun k hk => (O8.out.lt k hk).1))
            have O9 := Lib.hid (show w9.ownsRow wo.heap.size 3 1 v9 (j + 1) ((L ++ [z]).map (.int .i64)) by rw [List.map_append]; exact hown9)
            clear hown9 hg9 wr2
            go_wp2
            go_roundg (2 - (j + 1))
            case measure => omega
            case rel => exact ⟨j + 1, L ++ [z], by omega, by omega, by go_num, by simp [HL.out], O9.out, Z8.out.on B9.out (by omega), (R8.out.below B9.out (by omega)).more (by omega)⟩
          · have hjn : j = 2 := by omega
            subst hjn
            obtain ⟨A4, l4, q4, rfl, o4, n4, n5⟩ := SliceOut.of_row OI.out HL.out (by omega)
            have O4 := Lib.hid o4
            have OR := Lib.hid (OW.out.wk_ ZI.out lgS)
            obtain ⟨xs, hx1, hx2⟩ := OR.out
            have XO := Lib.hid hx1
            have LX := Lib.hid hx2
            obtain ⟨ys, hy1', _⟩ := OW.out
            have HY := Lib.hid hy1'
            have hlen : RR.length ≤ 3 := by rw [RL.out]; omega
            have EW := Lib.hid (XW.out.trans ZI.out)
            have sE := EW.out.size
            clear o4 hx1 hx2 hy1'
            go_wp2_with (at_builtin; refine wpList_append_own_at _ rfl _ _ 35 rfl wS.heap.size 22 i0 (.slice none 0 0) 1 24 Try.underlying35 hi hz0 hz1 hz2 rfl (by decide) _ _ _ rfl (XO.out.alloc _) ⟨_, 0, none⟩ 1 1 [.slice A4 l4 q4] rfl rfl (by intro i u hi; match i, hi with | 0, hi => simp at hi; subst hi; simp [Addr.add]) (by intro u hu; simp at hu; subst hu; rfl) (by unfold maxLen; omega) (by omega) (by simp; omega) ?_; intro v6 w6 hown6 hg6 _ hloc6; have HO6 := Lib.hid hown6; have HG6 := Lib.hid hg6; have HL6 := Lib.hid hloc6; have B6 := Lib.hid (((Below.refl wS.heap.size wr).alloc sE (.cells #[.slice A4 l4 q4] 22)).grown hg6 (Nat.le_trans sE (by simp)) (fun k hk => (XO.out.lt k hk).1)); clear hown6 hg6 hloc6)
            go_roundg (cnt - (y + 1))
            case measure => omega
            case rel =>
              refine ⟨y + 1, RR ++ [L], by omega, by omega, by go_num, LLs.more2 LX.out (O4.out.down sW1) n4 n5 (fun g' off hl e e' => ?_) (by simpa using HO6.out) HG6.out HL6.out, by simp [RL.out], lsZ_snoc R3'.out (by rw [HL.out]; omega), EW.out.on B6.out (Nat.le_refl _), (RI.out.below B6.out lgS).more (by omega)⟩
              obtain ⟨g2, off2, e2, hge, _⟩ := O4.out.2 hl
              rw [e] at e2
              simp only [Option.some.injEq, Addr.mk.injEq, and_true] at e2
              have := (HY.out.lt _ e').2
              omega
      · have hyc : y = cnt := by omega
        subst hyc
        go_wp2_with (fail)
        refine (pick_any g (k + 23 + 4 * y) 30 _ RW.out (by omega)).mono ?_
        rintro e w8 ⟨z, rfl, _, _, hw8, hr8⟩
        have X8 := Lib.hid (XW.out.trans hw8)
        have R8 := Lib.hid hr8
        have O8 := Lib.hid (OW.out.wk_ hw8 lgS)
        have s8 := X8.out.size
        have hlen : RR.length ≤ 2 := by rw [RL.out]; omega
        clear hw8 hr8
        by_cases hz0' : z = 0
        · subst hz0'
          obtain ⟨V9, hV9⟩ : ∃ U, w8.alloc (.cells #[.int .i64 0, .int .i64 5, .int .i64 (-1), .int .i64 9223372036854775807, .int .i64 1] 3) = U := ⟨_, rfl⟩
          have b9 : Below w8.heap.size w8 V9 := by subst hV9; exact (Below.refl _ _).alloc (Nat.le_refl _) _
          have i9 : Ints V9 V9.heap.size (some ⟨w8.heap.size, 0, none⟩) 5 [0, 5, -1, 9223372036854775807, 1] := by
            subst hV9
            have := own_lit_K (w := w8) (base := w8.heap.size) (e := 3) [.int .i64 0, .int .i64 5, .int .i64 (-1), .int .i64 9223372036854775807, .int .i64 1] (Nat.le_refl _) (by unfold maxLen; simp)
            exact ints_of_own (xs := [0, 5, -1, 9223372036854775807, 1]) (T := 3) (by simpa using this) rfl
          go_wp2_with (fail)
          try rw [hV9]
          refine (num_any g (k + 23 + 4 * y + 1) (some ⟨w8.heap.size, 0, none⟩) 5 5 V9.heap.size [0, 5, -1, 9223372036854775807, 1] V9 (R8.out.next b9) (by omega) i9 (fun a e => by cases e; show w8.heap.size ≠ g; omega) (by omega) (by omega)).mono ?_
          rintro e w9 ⟨jj, _, rfl, hw9, hr9⟩
          obtain ⟨NN, hNN⟩ : ∃ x, ([0, 5, -1, 9223372036854775807, 1] : List Int)[jj]?.getD 0 = x := ⟨_, rfl⟩
          rw [hNN]
          have X9 := Lib.hid (X8.out.trans ((Below.wk b9).trans hw9))
          have R9 := Lib.hid hr9
          have O9 := Lib.hid ((O8.out.next b9).wk_ hw9 lgS)
          have s9 := X9.out.size
          clear hw9 hr9 hNN b9 i9 hV9
          have KE := X9
          have KG := Lib.hid (KS.out.wk X9.out ngb)
          have AE := Lib.hid (AS.out.wk X9.out lgW)
          have K9 := Lib.hid (K0.out.wk (XS.out.trans X9.out) nK)
          obtain ⟨c0, c1, c2, c3⟩ := blk4 KG.out
          obtain ⟨d0, d1, d2, d3⟩ := blk4 K9.out
          have f0 := K9.out.frozen 0
          have f1 := K9.out.frozen 1
          have f2 := K9.out.frozen 2
          have f3 := K9.out.frozen 3
          go_wp2_with (fail)
          refine bodyPost_ret (v := .tuple #[.agg #[.int .i64 n2, .int .i64 o2, .slice A2' q2 ca2, .slice B2' q2 cb2], .int .i64 NN, _]) ?_ rfl ⟨_, _, _, rfl, (AE.out.store (b := w.heap.size) (by omega)).lower (by omega), ⟨RR, ((O9.out.wk_ (g := w.heap.size) (((((Wk.refl w.heap.size w9).set_ 0 _).set_ 1 _).set_ 2 _).set_ 3 _) (by omega)).downR (by omega)), by omega, R3'.out⟩, ((Below.wk BW.out).trans (XS.out.trans X9.out)).on (store4_below (Below.refl w.heap.size w9) (Nat.le_refl _)) (Nat.le_refl _), (R9.out.store K9.out noB0 nK).more (by omega)⟩
          exact results_cell_two (fn := Try.f55) rfl _ _ w.heap.size 27 _ _ _ _ rfl rfl rfl (store4_blk K9.out) Try.underlying27 rfl (by kernel_rfl)
        by_cases hz1' : z = 1
        · subst hz1'
          obtain ⟨V9, hV9⟩ : ∃ U, w8.alloc (.cells #[.int .i64 0, .int .i64 16, .int .i64 (-1)] 3) = U := ⟨_, rfl⟩
          have b9 : Below w8.heap.size w8 V9 := by subst hV9; exact (Below.refl _ _).alloc (Nat.le_refl _) _
          have i9 : Ints V9 V9.heap.size (some ⟨w8.heap.size, 0, none⟩) 3 [0, 16, -1] := by
            subst hV9
            have := own_lit_K (w := w8) (base := w8.heap.size) (e := 3) [.int .i64 0, .int .i64 16, .int .i64 (-1)] (Nat.le_refl _) (by unfold maxLen; simp)
            exact ints_of_own (xs := [0, 16, -1]) (T := 3) (by simpa using this) rfl
          go_wp2_with (fail)
          try rw [hV9]
          refine (num_any g (k + 23 + 4 * y + 1) (some ⟨w8.heap.size, 0, none⟩) 3 3 V9.heap.size [0, 16, -1] V9 (R8.out.next b9) (by omega) i9 (fun a e => by cases e; show w8.heap.size ≠ g; omega) (by omega) (by omega)).mono ?_
          rintro e w9 ⟨jj, _, rfl, hw9, hr9⟩
          obtain ⟨NN, hNN⟩ : ∃ x, ([0, 16, -1] : List Int)[jj]?.getD 0 = x := ⟨_, rfl⟩
          rw [hNN]
          have X9 := Lib.hid (X8.out.trans ((Below.wk b9).trans hw9))
          have R9 := Lib.hid hr9
          have O9 := Lib.hid ((O8.out.next b9).wk_ hw9 lgS)
          have s9 := X9.out.size
          have s8' := b9.size
          have s9' := hw9.size
          clear hw9 hr9 hNN b9 i9 hV9
          obtain ⟨V10, hV10⟩ : ∃ U, w9.alloc (.cells #[.int .i64 0, .int .i64 NN] 3) = U := ⟨_, rfl⟩
          have b10 : Below w9.heap.size w9 V10 := by subst hV10; exact (Below.refl _ _).alloc (Nat.le_refl _) _
          have o10 : V10.ownsRow w9.heap.size 3 1 (.slice (some ⟨w9.heap.size, 0, none⟩) 2 2) 2 (([0, NN] : List Int).map (.int .i64)) := by
            subst hV10
            have := own_lit_K (w := w9) (base := w9.heap.size) (e := 3) [.int .i64 0, .int .i64 NN] (Nat.le_refl _) (by unfold maxLen; simp)
            simpa using this
          have O4 := Lib.hid (own_of_row o10 rfl)
          have OR := Lib.hid (O9.out.next b10)
          have X10 := Lib.hid (X9.out.trans (Below.wk b10))
          have R10 := Lib.hid (R9.out.next b10)
          have s10 := X10.out.size
          obtain ⟨xs, hx1, hx2⟩ := OR.out
          have XO := Lib.hid hx1
          have LX := Lib.hid hx2
          obtain ⟨ys, hy1', _⟩ := O9.out
          have HY := Lib.hid hy1'
          clear hx1 hx2 hy1' b10 o10
          go_wp2_with (at_builtin; (try rw [hV10]); refine wpList_append_own_at _ rfl _ _ 35 rfl wS.heap.size 22 i0 (.slice none 0 0) 1 24 Try.underlying35 hi hz0 hz1 hz2 rfl (by decide) _ _ _ rfl (XO.out.alloc _) ⟨_, 0, none⟩ 1 1 [.slice (some ⟨w9.heap.size, 0, none⟩) 2 2] rfl rfl (by intro i u hi; match i, hi with | 0, hi => simp at hi; subst hi; simp [Addr.add]) (by intro u hu; simp at hu; subst hu; rfl) (by unfold maxLen; omega) (by omega) (by simp; omega) ?_; intro v6 w6 hown6 hg6 _ hloc6; have HO6 := Lib.hid hown6; have HG6 := Lib.hid hg6; have HL6 := Lib.hid hloc6; have B6 := Lib.hid (((Below.refl wS.heap.size V10).alloc s10 (.cells #[.slice (some ⟨w9.heap.size, 0, none⟩) 2 2] 22)).grown hg6 (Nat.le_trans s10 (by simp)) (fun k hk => (XO.out.lt k hk).1)); have OE := Lib.hid (show LLo wS.heap.size w6 v6 (RR ++ [[0, NN]]) from LLs.more2 LX.out (O4.out.down s9) (Nat.le_refl _) (by omega) (fun g' off hl e e' => by simp only [Option.some.injEq, Addr.mk.injEq, and_true] at e; have := (HY.out.lt _ e').2; omega) (by simpa using HO6.out) HG6.out HL6.out); have X6 := Lib.hid (X10.out.on B6.out (Nat.le_refl _)); have R6 := Lib.hid (R10.out.below B6.out lgS); clear hown6 hg6 hloc6; have KG := Lib.hid (KS.out.wk X6.out ngb); obtain ⟨c0, c1, c2, c3⟩ := blk4 KG.out; have K9 := Lib.hid (K0.out.wk (XS.out.trans X6.out) nK); obtain ⟨d0, d1, d2, d3⟩ := blk4 K9.out; have f0 := K9.out.frozen 0; have f1 := K9.out.frozen 1; have f2 := K9.out.frozen 2; have f3 := K9.out.frozen 3)
          have AE := Lib.hid (AS.out.wk X6.out lgW)
          refine bodyPost_ret (v := .tuple #[.agg #[.int .i64 n2, .int .i64 o2, .slice A2' q2 ca2, .slice B2' q2 cb2], .int .i64 2, v6]) ?_ rfl ⟨_, _, _, rfl, (AE.out.store (b := w.heap.size) (by omega)).lower (by omega), ⟨RR ++ [[0, NN]], ((OE.out.wk_ (g := w.heap.size) (((((Wk.refl w.heap.size w6).set_ 0 _).set_ 1 _).set_ 2 _).set_ 3 _) (by omega)).downR (by omega)), by simp; omega, lsZ_snoc R3'.out (by simp)⟩, ((Below.wk BW.out).trans (XS.out.trans X6.out)).on (store4_below (Below.refl w.heap.size w6) (Nat.le_refl _)) (Nat.le_refl _), (R6.out.store K9.out noB0 nK).more (by omega)⟩
          exact results_cell_two (fn := Try.f55) rfl _ _ w.heap.size 27 _ _ _ _ rfl rfl rfl (store4_blk K9.out) Try.underlying27 rfl (by kernel_rfl)
        have t0 : (z == 0) = false := by rw [beq_eq_false_iff_ne]; exact hz0'
        have t1' : (z == 1) = false := by rw [beq_eq_false_iff_ne]; exact hz1'
        have KE := X8
        have KG := Lib.hid (KS.out.wk X8.out ngb)
        have AE := Lib.hid (AS.out.wk X8.out lgW)
        have K9 := Lib.hid (K0.out.wk (XS.out.trans X8.out) nK)
        obtain ⟨c0, c1, c2, c3⟩ := blk4 KG.out
        obtain ⟨d0, d1, d2, d3⟩ := blk4 K9.out
        have f0 := K9.out.frozen 0
        have f1 := K9.out.frozen 1
        have f2 := K9.out.frozen 2
        have f3 := K9.out.frozen 3
        go_wp2_with (fail)
        refine bodyPost_ret (v := .tuple #[.agg #[.int .i64 n2, .int .i64 o2, .slice A2' q2 ca2, .slice B2' q2 cb2], .int .i64 2, _]) ?_ rfl ⟨_, _, _, rfl, (AE.out.store (b := w.heap.size) (by omega)).lower (by omega), ⟨RR, ((O8.out.wk_ (g := w.heap.size) (((((Wk.refl w.heap.size w8).set_ 0 _).set_ 1 _).set_ 2 _).set_ 3 _) (by omega)).downR (by omega)), by omega, R3'.out⟩, ((Below.wk BW.out).trans (XS.out.trans X8.out)).on (store4_below (Below.refl w.heap.size w8) (Nat.le_refl _)) (Nat.le_refl _), (R8.out.store K9.out noB0 nK).more (by omega)⟩
        exact results_cell_two (fn := Try.f55) rfl _ _ w.heap.size 27 _ _ _ _ rfl rfl rfl (store4_blk K9.out) Try.underlying27 rfl (by kernel_rfl)

end Go.Proofs.Ytahdkdpliphcnaa

