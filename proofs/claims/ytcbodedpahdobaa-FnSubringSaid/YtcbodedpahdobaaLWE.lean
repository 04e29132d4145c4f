
import Derived.Test.YtcbodedpahdobaaMJ
/- The drawing side: DrawIdealOf, a ring and a list of numbers. -/
namespace Go.Proofs.Ytcbodedpahdobaa
open Go.RowKit
set_option maxRecDepth 100000

set_option maxHeartbeats 4000000 in
theorem drawIdealOf_any (A : Option Addr) (n c : Nat) (w : World) (hb : Byts w w.heap.size A n) (hn : n ≤ 1048576) (hc : n ≤ c) (hc2 : c ≤ 9223372036854775807) :
    Calls Try.prog 15 #[.slice A n c] w fun e w' => ∃ (v : Value) (A' : Option Addr) (n' c' : Nat) (L : List Int), e = .returned (.tuple #[v, .slice A' n' c']) ∧ AnyR w.heap.size w' v ∧ SliceOut w.heap.size w' (.slice A' n' c') L ∧ L.length ≤ 3 ∧ (∀ x ∈ L, Wrd x) ∧ Below w.heap.size w w' := by
  obtain ⟨i0, hi, hz0, hz1, hz2⟩ := info_parts int_info
  obtain ⟨W, hW⟩ : ∃ W, w.alloc (.cells #[.int .i64 0, .int .i64 0, .slice none 0 0, .slice none 0 0] 25) = W := ⟨_, rfl⟩
  have hs : W.heap.size = w.heap.size + 1 := by subst hW; simp
  have bW : Below w.heap.size w W := by subst hW; exact (Below.refl _ _).alloc (Nat.le_refl _) _
  have K0 := Lib.hid (show Blk W w.heap.size 25 #[.int .i64 0, .int .i64 0, .slice none 0 0, .slice none 0 0] by subst hW; exact Blk.new w _ _)
  have HB := Lib.hid (hb.grow bW)
  have B0 := Lib.hid bW
  clear bW
  go_enter Try.func15, Try.ntmps15
  go_upto_region 1 with (fail)
  clear hW
  go_wp2_with (fail)
  refine (l13Open_any A n c W HB.out (by omega) hc hc2).mono ?_
  rintro e w1 ⟨rfl, hb1, hr1, hlt1⟩
  obtain ⟨g, hg⟩ : ∃ g, W.heap.size = g := ⟨_, rfl⟩
  rw [hg] at hr1 hlt1 ⊢
  have hgw : w.heap.size < g := by omega
  have K1 := Lib.hid (K0.out.below hb1 (by omega))
  have B1 := Lib.hid (B0.out.trans (hb1.mono (by omega)))
  have R1 := Lib.hid hr1
  clear hb1 hr1 hg hs
  have nK : w.heap.size ≠ g := by omega
  have X1 := Lib.hid (Below.wk (g := g) B1.out)
  go_wp2_with (fail)
  refine (l1Some_any g 0 w1 R1.out (by omega)).mono ?_
  rintro e w2 ⟨v, rfl, hA, hw2, hr2⟩
  have F2 := hA
  obtain ⟨n2, o2, A2, B2, q2, ca2, cb2, X2, Y2, rfl, _, _, _⟩ := hA.data
  have s1 := X1.out.size
  have s2 := hw2.size
  have K2 := K1.out.wk hw2 nK
  have X2 := X1.out.trans hw2
  clear hA
  go_upto_region 3 with (fail)
  obtain ⟨V, hV⟩ : ∃ V, w2.alloc (.cells #[.int .i64 n2, .int .i64 o2, .slice A2 q2 ca2, .slice B2 q2 cb2] 25) = V := ⟨_, rfl⟩
  have bV : Below w2.heap.size w2 V := by subst hV; exact (Below.refl _ _).alloc (Nat.le_refl _) _
  obtain ⟨bx, hbx⟩ : ∃ b, b = w2.heap.size := ⟨_, rfl⟩
  have lD : g < w1.heap.size := R1.out.lt
  have lK : w.heap.size < w1.heap.size := K1.out.lt
  have nB : bx ≠ g := by omega
  have nBK : bx ≠ w.heap.size := by omega
  have KB3 := Lib.hid (show Blk V bx 25 #[.int .i64 n2, .int .i64 o2, .slice A2 q2 ca2, .slice B2 q2 cb2] by subst hV hbx; exact Blk.new w2 _ _)
  have K3 := Lib.hid (K2.next bV)
  have X3 := Lib.hid (X2.trans (Below.wk bV))
  have R3 := Lib.hid (hr2.next bV)
  have F3 := Lib.hid (F2.next bV)
  rw [← hbx, hV]
  have lVV : w1.heap.size ≤ V.heap.size := Nat.le_trans hw2.size bV.size
  have lg : g < V.heap.size := by omega
  have lB : bx < V.heap.size := KB3.out.lt
  clear hV bV hbx K2 X2 hr2 F2 hw2 s1 s2
  go_upto_region 4 with (fail)
  obtain ⟨V1, hV1⟩ : ∃ V1, V.alloc (.cells #[] 3) = V1 := ⟨_, rfl⟩
  have O1 := Lib.hid (show V1.ownsRow V.heap.size 3 1 (.slice (some ⟨V.heap.size, 0, none⟩) 0 0) 0 (intsV []) by
    subst hV1; exact own_literal (w := V) (base := V.heap.size) (e := 3) [] (Nat.le_refl _) (by unfold maxLen; simp))
  have bV1 : Below V.heap.size V V1 := by subst hV1; exact (Below.refl V.heap.size V).alloc (Nat.le_refl _) _
  have Z1 := Lib.hid (Below.wk (g := g) bV1)
  have R4 := Lib.hid (R3.out.next bV1)
  rw [hV1]
  have sV1 := bV1.size
  clear hV1 bV1
  go_wp2_with (fail)
  refine (pick_any g 40 _ _ R4.out (by omega)).mono ?_
  rintro e w4 ⟨p, rfl, h0, h1, hw4, hr4⟩
  obtain ⟨p, rfl⟩ := Int.eq_ofNat_of_zero_le h0
  have hp : p ≤ 3 := by omega
  have Z2 := Lib.hid (Z1.out.trans hw4)
  have R5 := Lib.hid hr4
  have O2 := Lib.hid (show w4.ownsRow V.heap.size 3 1 (.slice (some ⟨V.heap.size, 0, none⟩) 0 0) 0 (intsV []) from O1.out.kept hw4.grown (.inr fun e => by injection e with e; have e : V.heap.size = g := e; omega))
  clear hw4 hr4 h0 h1 O1 Z1 R4
  go_wp2
  go_loopw [6, 14] (fun vv i wr => ∃ (j : Nat) (L : List Int), j ≤ p ∧ i = .int .i64 j ∧ L.length = j ∧ (∀ x ∈ L, Wrd x) ∧ wr.ownsRow V.heap.size 3 1 vv j (intsV L) ∧ Wk g V wr ∧ Rdr wr g (41 + 2 * j)) (fun _ i _ => p - (intOf i).toNat)
  case atStart => exact ⟨0, [], Nat.zero_le _, rfl, rfl, (by simp), O2.out, Z2.out, R5.out⟩
  case round =>
    obtain ⟨j, L, hj, rfl, hL, hW, hown, hwk, hrd⟩ := hrel
    have OW := Lib.hid hown
    have ZW := Lib.hid hwk
    have RW := Lib.hid hrd
    have HL := Lib.hid hL
    have HW := Lib.hid hW
    have hsz := hwk.size
    have KBr := Lib.hid (KB3.out.wk hwk nB)
    have Kr := Lib.hid (K3.out.wk hwk nK)
    clear hown hwk hrd hL hW O2 Z2 R5
    by_cases hlt : j < p
    · have c0 := KBr.out.cell 0
      have c1 := KBr.out.cell 1
      have c2 := KBr.out.cell 2
      have c3 := KBr.out.cell 3
      simp at c0 c1 c2 c3
      go_wp2_with (fail)
      refine (l1Element_any g (41 + 2 * j) n2 o2 A2 B2 q2 ca2 q2 cb2 wr RW.out (by omega)).mono ?_
      rintro e w5 ⟨z, rfl, hz, hw5, hr5⟩
      have Z5 := Lib.hid (ZW.out.trans hw5)
      have R5 := Lib.hid hr5
      have O5 := Lib.hid (OW.out.kept hw5.grown (.inr fun e => by have := (OW.out.lt g e).1; omega))
      have s5 := hw5.size
      have HZ := Lib.hid hz
      clear hw5 hr5 OW ZW RW hz c0 c1 c2 c3
      have wr2 : Below w5.heap.size w5 (w5.alloc (.cells #[.int .i64 z] 3)) := (Below.refl _ _).alloc (Nat.le_refl _) _
      go_wp2_with (at_builtin; refine wpList_append_own _ rfl _ _ 23 rfl V.heap.size 3 i0 (.int .i64 0) 1 8 Try.underlying23 hi hz0 hz1 hz2 rfl (by decide) _ _ _ rfl (O5.out.alloc _) ⟨w5.heap.size, 0, none⟩ 1 1 [.int .i64 z] rfl rfl (by intro j u hj; match j, hj with | 0, hj => simp at hj; subst hj; simp [Addr.add]) (by intro u hu; simp at hu; subst hu; rfl) (by unfold maxLen; omega) (by omega) (by simp; omega) ?_; intro v3 w3 hown3 hg3 _)
      have B3 := Lib.hid (((Below.refl V.heap.size w5).trans (wr2.mono (by omega))).grown hg3 (by have := wr2.size; omega) (fun k hk => (O5.out.lt k hk).1))
      have O3 := Lib.hid (show w3.ownsRow V.heap.size 3 1 v3 (j + 1) (intsV (L ++ [z])) by
        rw [← intsV_one]; exact hown3)
      clear hown3 hg3 wr2
      go_wp2
      go_roundw
      case rel => exact ⟨j + 1, L ++ [z], by omega, by go_num, by simp [HL.out], (by
        intro x hx
        rcases List.mem_append.1 hx with h | h
        · exact HW.out x h
        · simp at h; subst h; exact HZ.out), O3.out, Z5.out.on B3.out (Nat.le_refl _), (R5.out.below B3.out lg).more (by omega)⟩
      case measure => simp [intOf]; omega
    · have hjp : j = p := by omega
      subst hjp
      have SO := SliceOut.of_row OW.out HL.out (by omega)
      obtain ⟨AL, nL, cL, rfl, hso⟩ := SO
      have HS := Lib.hid (show SliceOut V.heap.size wr (.slice AL nL cL) L from ⟨AL, nL, cL, rfl, hso⟩)
      have F9 := Lib.hid (F3.out.wk ZW.out lD)
      have X9 := Lib.hid (X3.out.trans ZW.out)
      clear hso OW ZW RW
      have c0 := KBr.out.cell 0
      have c1 := KBr.out.cell 1
      have c2 := KBr.out.cell 2
      have c3 := KBr.out.cell 3
      have d0 := Kr.out.cell 0
      have d1 := Kr.out.cell 1
      have d2 := Kr.out.cell 2
      have d3 := Kr.out.cell 3
      have f0 := Kr.out.frozen 0
      have f1 := Kr.out.frozen 1
      have f2 := Kr.out.frozen 2
      have f3 := Kr.out.frozen 3
      simp at c0 c1 c2 c3 d0 d1 d2 d3
      go_wp2_with (fail)
      refine bodyPost_ret (v := .tuple #[.agg #[.int .i64 n2, .int .i64 o2, .slice A2 q2 ca2, .slice B2 q2 cb2], .slice AL nL cL]) ?_ rfl ⟨_, AL, nL, cL, L, rfl, ?_, ?_, ?_, HW.out, ?_⟩
      · exact results_cell_flag (fn := Try.f15) rfl _ _ w.heap.size 25 _ _ _ rfl rfl (store4_blk Kr.out) Try.underlying25 rfl (by kernel_rfl)
      · exact (F9.out.store lK).lower (Nat.le_of_lt lK)
      · obtain ⟨A', l', c', e', h1, h2⟩ := HS.out
        exact ⟨A', l', c', e', (store4_ownS h1 (by omega)).lower (by omega), h2⟩
      · have := HL.out; omega
      · exact (X9.out.below (Nat.le_of_lt hgw) (Nat.le_refl _)).trans (store4_below (Below.refl w.heap.size _) (Nat.le_refl _))

set_option maxHeartbeats 4000000 in
theorem drawSubringOf_any (A : Option Addr) (n c : Nat) (w : World) (hb : Byts w w.heap.size A n) (hn : n ≤ 1048576) (hc : n ≤ c) (hc2 : c ≤ 9223372036854775807) :
    Calls Try.prog 22 #[.slice A n c] w fun e w' => ∃ (v : Value) (A' : Option Addr) (n' c' : Nat) (L : List Int), e = .returned (.tuple #[v, .slice A' n' c']) ∧ AnyR w.heap.size w' v ∧ SliceOut w.heap.size w' (.slice A' n' c') L ∧ L.length ≤ 3 ∧ (∀ x ∈ L, Wrd x) ∧ Below w.heap.size w w' := by
  obtain ⟨W, hW⟩ : ∃ W, w.alloc (.cells #[.int .i64 0, .int .i64 0, .slice none 0 0, .slice none 0 0] 25) = W := ⟨_, rfl⟩
  have hs : W.heap.size = w.heap.size + 1 := by subst hW; simp
  have bW : Below w.heap.size w W := by subst hW; exact (Below.refl _ _).alloc (Nat.le_refl _) _
  have K0 := Lib.hid (show Blk W w.heap.size 25 #[.int .i64 0, .int .i64 0, .slice none 0 0, .slice none 0 0] by subst hW; exact Blk.new w _ _)
  have HB := Lib.hid (hb.grow bW)
  have B0 := Lib.hid bW
  clear bW
  go_enter Try.func22, Try.ntmps22
  go_upto_region 1 with (fail)
  clear hW
  go_wp2_with (fail)
  refine (drawIdealOf_any A n c W HB.out hn hc hc2).mono ?_
  rintro e w1 ⟨v, AL, nL, cL, L, rfl, hA, hS, hl, hW, hb1⟩
  have F1 := Lib.hid hA
  obtain ⟨n2, o2, A2, B2, q2, ca2, cb2, X2, Y2, rfl, _, _, _⟩ := hA.data
  have S1 := Lib.hid hS
  have HW := Lib.hid hW
  have B1 := Lib.hid (B0.out.trans (hb1.mono (by omega)))
  have K1 := Lib.hid (K0.out.below hb1 (by omega))
  have lK : w.heap.size < W.heap.size := by omega
  clear hA hS hW hb1
  have d0 := K1.out.cell 0
  have d1 := K1.out.cell 1
  have d2 := K1.out.cell 2
  have d3 := K1.out.cell 3
  have f0 := K1.out.frozen 0
  have f1 := K1.out.frozen 1
  have f2 := K1.out.frozen 2
  have f3 := K1.out.frozen 3
  simp at d0 d1 d2 d3
  go_wp2_with (fail)
  refine bodyPost_ret (v := .tuple #[.agg #[.int .i64 n2, .int .i64 o2, .slice A2 q2 ca2, .slice B2 q2 cb2], .slice AL nL cL]) ?_ rfl ⟨_, AL, nL, cL, L, rfl, (F1.out.store lK).lower (Nat.le_of_lt lK), ?_, hl, HW.out, B1.out.trans (store4_below (Below.refl w.heap.size _) (Nat.le_refl _))⟩
  · exact results_cell_flag (fn := Try.f22) rfl _ _ w.heap.size 25 _ _ _ rfl rfl (store4_blk K1.out) Try.underlying25 rfl (by kernel_rfl)
  · obtain ⟨A', l', c', e', h1, h2⟩ := S1.out
    exact ⟨A', l', c', e', (store4_ownS h1 lK).lower (Nat.le_of_lt lK), h2⟩

end Go.Proofs.Ytcbodedpahdobaa
