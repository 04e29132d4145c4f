
import Derived.Test.YtlcpbdbdiahmjaaMF
import Derived.Test.YtlcpbdbdiahmjaaNG
/- The drawing side: l9Draw: a list of coefficients. -/
namespace Go.Proofs.Ytlcpbdbdiahmjaa
open Go.RowKit
set_option maxRecDepth 100000

theorem lstV_made8 {T : TypeId} {w : World} {D : Nat} {v : Value} (h : w.ownsRow D T 1 v 8 (madeCells (Value.int .i64 0).cells (8 * 1)).toList) : w.ownsRow D T 1 v 8 ((lstF (fun _ => 0) 8).map (Value.int .i64)) := by
  rw [← lstV_made]
  exact h
theorem lst_of_nats (L : List Nat) : L.map (fun (x : Nat) => (x : Int)) = lstF (fun i => L[i]?.getD 0) L.length := by
  apply List.ext_getElem?
  intro i
  rcases Nat.lt_or_ge i L.length with h | h
  · rw [lstF_get h, List.getElem?_map, List.getElem?_eq_getElem h]
    rfl
  · rw [List.getElem?_eq_none (by simpa using h), List.getElem?_eq_none (by rw [lstF_len]; exact h)]

set_option maxHeartbeats 1000000 in
theorem l9TrimR_any (D : Nat) (v : Value) (l : Nat) (F : Nat → Nat) (w : World) (h : PolV D w v l F) :
    Calls Try.prog 54 #[v] w fun e w' => ∃ v', e = .returned v' ∧ w'.ownsRow w.heap.size 3 1 v' (tlN F l) ((lstF F (tlN F l)).map (.int .i64)) ∧ Below w.heap.size w w' := by
  obtain ⟨i0, hi, hz0, hz1, hz2⟩ := info_parts int_info
  obtain ⟨A, c, rfl, ho, hc, hl, hA⟩ := h
  have HI := Lib.hid ho.ints
  clear ho
  rcases hA with ⟨rfl, rfl⟩ | ⟨b, off, rfl⟩
  · have hl0 : l = 0 := by omega
    subst hl0
    go_enter Try.func54, Try.ntmps54
    go_wp2
    go_loopg [0] 1 (fun g s wr => s = .slice none 0 0 ∧ Below w.heap.size w wr)
    case atStart => exact ⟨rfl, Below.refl _ _⟩
    case round =>
      obtain ⟨rfl, hb⟩ := hrel
      have B1 := Lib.hid hb
      have hsz := hb.size
      clear hb
      have O0 := Lib.hid (own_lit_K (w := wr) (base := w.heap.size) (e := 3) [] hsz (by unfold maxLen; simp))
      have B2 := Lib.hid (B1.out.alloc hsz (.cells #[] 3))
      go_wp2_with (at_builtin; refine wpList_append_own_none rfl _ _ 23 rfl w.heap.size 3 i0 1 Try.underlying23 hi (by rw [hz1]) _ 0 [] rfl O0.out rfl ?_)
      go_ret
      exact ⟨_, rfl, O0.out, B2.out⟩
  · go_enter Try.func54, Try.ntmps54
    go_wp2
    go_loopg [0] l (fun g s wr => ∃ k : Nat, k ≤ l ∧ k ≤ g ∧ s = .slice (some ⟨b, off, none⟩) k c ∧ tlN F k = tlN F l ∧ Below w.heap.size w wr)
    case atStart => exact ⟨l, Nat.le_refl _, Nat.le_refl _, rfl, rfl, Below.refl _ _⟩
    case round =>
      obtain ⟨k, hk, hg, rfl, htl, hb⟩ := hrel
      have B1 := Lib.hid hb
      have hsz := hb.size
      have HI1 := Lib.hid (HI.out.next hb)
      have HT := Lib.hid htl
      clear hb htl
      have O0 := Lib.hid (own_lit_K (w := wr) (base := w.heap.size) (e := 3) [] hsz (by unfold maxLen; simp))
      have B2 := Lib.hid (B1.out.alloc hsz (.cells #[] 3))
      have hcl := Lib.hid (show ∀ (j : Nat) (u : Value), ((lstF F k).map (Value.int .i64))[j]? = some u → (wr.alloc (.cells #[] 3)).cell? ((⟨b, off, none⟩ : Addr).add j) = some u from
        ints_adds (B := w.heap.size) (n := k) ⟨lstF_len, fun hn => by
          obtain ⟨b', off', e, h1, h2⟩ := HI.out.2 (by omega)
          simp only [Option.some.injEq, Addr.mk.injEq, and_true] at e
          obtain ⟨rfl, rfl⟩ := e
          refine ⟨_, _, rfl, h1, fun j x hx => ?_⟩
          have hj : j < k := by
            rcases Nat.lt_or_ge j k with h3 | h3
            · exact h3
            · rw [List.getElem?_eq_none (by rw [lstF_len]; exact h3)] at hx; cases hx
          rw [lstF_get hj] at hx
          simp only [Option.some.injEq] at hx
          subst hx
          exact (B2.out.cell (p := ⟨_, _, none⟩) h1).trans (lstF_cell HI.out (by omega))⟩)
      cases k with
      | zero =>
        go_wp2_with (at_builtin; refine wpList_append_own _ rfl _ _ 23 rfl w.heap.size 3 i0 (.int .i64 0) 1 8 Try.underlying23 hi hz0 hz1 hz2 rfl (by decide) _ _ _ rfl O0.out ⟨b, off, none⟩ 0 c ((lstF F 0).map (.int .i64)) rfl (by simp [lstF_len]) hcl.out map_one (by unfold maxLen; simp) (by simp) (by simp; omega) ?_; intro v3 w3 hown3 hg3 _)
        have B3 := Lib.hid (B2.out.grown hg3 (by simp; omega) (fun k hk => (O0.out.lt k hk).1))
        have O3 := Lib.hid (show w3.ownsRow w.heap.size 3 1 v3 0 ((lstF F 0).map (.int .i64)) by simpa using hown3)
        clear hown3 hg3
        go_wp2
        go_ret
        exact ⟨_, rfl, by rw [← HT.out]; exact O3.out, B3.out⟩
      | succ k =>
        have hc0 := lstF_cell HI1.out (i := k) (by omega)
        by_cases h0 : F k = 0
        · rw [h0] at hc0
          have t0 := Lib.hid ((tl_zero h0).symm.trans HT.out)
          go_wp2
          go_roundg k
          case measure => omega
          case rel => exact ⟨k, by omega, by omega, by go_num, t0.out, B1.out⟩
        · have t1 : (((F k : Nat) : Int) == 0) = false := by rw [beq_eq_false_iff_ne]; omega
          have t2 : ¬ ((F k : Nat) : Int) = 0 := by omega
          have t3 := Lib.hid ((tl_top h0).symm.trans HT.out)
          go_wp2_with (at_builtin; refine wpList_append_own _ rfl _ _ 23 rfl w.heap.size 3 i0 (.int .i64 0) 1 8 Try.underlying23 hi hz0 hz1 hz2 rfl (by decide) _ _ _ rfl O0.out ⟨b, off, none⟩ (k + 1) c ((lstF F (k + 1)).map (.int .i64)) rfl (by simp [lstF_len]) hcl.out map_one (by unfold maxLen; simp; omega) (by simp; omega) (by simp; omega) ?_; intro v3 w3 hown3 hg3 _)
          have B3 := Lib.hid (B2.out.grown hg3 (by simp; omega) (fun k hk => (O0.out.lt k hk).1))
          have O3 := Lib.hid (show w3.ownsRow w.heap.size 3 1 v3 (k + 1) ((lstF F (k + 1)).map (.int .i64)) by simpa using hown3)
          clear hown3 hg3
          go_wp2
          go_ret
          exact ⟨_, rfl, by rw [← HT.out, tl_top h0]; exact O3.out, B3.out⟩

set_option maxHeartbeats 4000000 in
theorem l9Draw_any (g k mo : Nat) (n o : Int) (A B : Option Addr) (la ca lb cb : Nat) (w : World) (hr : Rdr w g k) (hk : k ≤ 1125899906841000) (hmo : mo ≤ 4) :
    Calls Try.prog 89 #[.pointer (some ⟨g, 0, none⟩), .agg #[.int .i64 n, .int .i64 o, .slice A la ca, .slice B lb cb], .int .i64 mo] w fun e w' => ∃ v L, e = .returned v ∧ SliceOut w.heap.size w' v L ∧ L.length ≤ 9 ∧ (∀ x ∈ L, Wrd x) ∧ Wk g w w' ∧ Rdr w' g (k + 20) := by
  obtain ⟨i0, hi, hz0, hz1, hz2⟩ := info_parts int_info
  have hg := hr.lt
  obtain ⟨W, hW⟩ : ∃ W, w.alloc (.cells #[.int .i64 n, .int .i64 o, .slice A la ca, .slice B lb cb] 25) = W := ⟨_, rfl⟩
  have hwW : w.heap.size < W.heap.size := by subst hW; simp
  have bW : Below w.heap.size w W := by subst hW; exact (Below.refl _ _).alloc (Nat.le_refl _) _
  have K0 := Lib.hid (show Blk W w.heap.size 25 #[.int .i64 n, .int .i64 o, .slice A la ca, .slice B lb cb] by subst hW; exact Blk.new w _ _)
  have R0 := Lib.hid (hr.next bW)
  have X0 := Lib.hid (Below.wk (g := g) bW)
  have HW := Lib.hid hW
  have nK : w.heap.size ≠ g := by omega
  clear hr bW hW
  go_enter Try.func89, Try.ntmps89
  go_upto_region 1 with (fail)
  rw [HW.out]
  obtain ⟨V, hV⟩ : ∃ V, W.alloc (.cells #[] 3) = V := ⟨_, rfl⟩
  have O1 := Lib.hid (show V.ownsRow W.heap.size 3 1 (.slice (some ⟨W.heap.size, 0, none⟩) 0 0) 0 [] by
    subst hV; exact own_literal (w := W) (base := W.heap.size) (e := 3) [] (Nat.le_refl _) (by unfold maxLen; simp))
  have bV : Below W.heap.size W V := by subst hV; exact (Below.refl W.heap.size W).alloc (Nat.le_refl _) _
  have R1 := Lib.hid (R0.out.next bV)
  have X1 := Lib.hid (Below.wk (g := g) bV)
  have K1 := Lib.hid (K0.out.next bV)
  have HV := Lib.hid hV
  have sV := bV.size
  clear bV hV
  go_upto_region 2 with (fail)
  rw [HV.out]
  go_wp2_with (fail)
  refine (pick_any g k _ V R1.out (by omega)).mono ?_
  rintro e w4 ⟨p, rfl, h0, h1, hw4, hr4⟩
  obtain ⟨p, rfl⟩ := Int.eq_ofNat_of_zero_le h0
  have hp : p ≤ 4 := by omega
  have Z2 := Lib.hid (X1.out.trans hw4)
  have R2 := Lib.hid hr4
  have O2 := Lib.hid (show w4.ownsRow W.heap.size 3 1 (.slice (some ⟨W.heap.size, 0, none⟩) 0 0) 0 ((([] : List Nat).map fun (x : Nat) => (x : Int)).map (.int .i64)) from O1.out.kept hw4.grown (.inr fun e => by injection e with e; have e : W.heap.size = g := e; omega))
  clear hw4 hr4 h0 h1
  go_wp2
  go_loopw [7, 13] (fun vv i wr => ∃ (j : Nat) (L : List Nat), j ≤ p ∧ i = .int .i64 j ∧ L.length = j ∧ (∀ x ∈ L, x ≤ 15) ∧ wr.ownsRow W.heap.size 3 1 vv j ((L.map fun (x : Nat) => (x : Int)).map (.int .i64)) ∧ Wk g W wr ∧ Rdr wr g (k + 1 + j)) (fun _ i _ => p - (intOf i).toNat)
  case atStart => exact ⟨0, [], Nat.zero_le _, rfl, rfl, (by simp), O2.out, Z2.out, R2.out⟩
  case round =>
    obtain ⟨j, L, hj, rfl, hL, hW', hown, hwk, hrd⟩ := hrel
    have OW := Lib.hid hown
    have ZW := Lib.hid hwk
    have RW := Lib.hid hrd
    have HL := Lib.hid hL
    have HW' := Lib.hid hW'
    have hsz := hwk.size
    have Kr := Lib.hid (K0.out.wk hwk nK)
    clear hown hwk hrd hL hW'
    by_cases hlt : j < p
    · by_cases hn1 : n < 16
      · by_cases hn2 : n < 1
        · have hn3 : ¬ 1 < n := by omega
          have c0 := Kr.out.cell 0
          simp at c0
          go_wp2_with (fail)
          refine (pick_any g (k + 1 + j) _ wr RW.out (by omega)).mono ?_
          rintro e w5 ⟨z, rfl, hz0', hz1', hw5, hr5⟩
          obtain ⟨z, rfl⟩ := Int.eq_ofNat_of_zero_le hz0'
          have hz : z ≤ 15 := by omega
          have Z5 := Lib.hid (ZW.out.trans hw5)
          have R5 := Lib.hid hr5
          have O5 := Lib.hid (OW.out.kept hw5.grown (.inr fun e => by have := (OW.out.lt g e).1; omega))
          have s5 := hw5.size
          clear hw5 hr5 OW ZW RW hz0' hz1' c0
          have wr2 : Below w5.heap.size w5 (w5.alloc (.cells #[.int .i64 (z : Int)] 3)) := (Below.refl _ _).alloc (Nat.le_refl _) _
          go_wp2_with (at_builtin; refine wpList_append_own _ rfl _ _ 23 rfl W.heap.size 3 i0 (.int .i64 0) 1 8 Try.underlying23 hi hz0 hz1 hz2 rfl (by decide) _ _ _ rfl (O5.out.alloc _) ⟨w5.heap.size, 0, none⟩ 1 1 [.int .i64 (z : Int)] rfl rfl (by intro j u hj; match j, hj with | 0, hj => simp at hj; subst hj; simp [Addr.add]) (by intro u hu; simp at hu; subst hu; rfl) (by unfold maxLen; omega) (by omega) (by simp; omega) ?_; intro v3 w3 hown3 hg3 _)
          have B3 := Lib.hid (((Below.refl W.heap.size w5).trans (wr2.mono (by omega))).grown hg3 (by have := wr2.size; omega) (fun k hk => (O5.out.lt k hk).1))
          have O3 := Lib.hid (show w3.ownsRow W.heap.size 3 1 v3 (j + 1) (((L ++ [z]).map fun (x : Nat) => (x : Int)).map (.int .i64)) by
            rw [List.map_append, List.map_append]; exact hown3)
          clear hown3 hg3 wr2
          go_wp2
          go_roundw
          case rel => exact ⟨j + 1, L ++ [z], by omega, by go_num, by simp [HL.out], (by
            intro x hx
            rcases List.mem_append.1 hx with h | h
            · exact HW'.out x h
            · simp at h; subst h; exact hz), O3.out, Z5.out.on B3.out (Nat.le_refl _), (R5.out.below B3.out (by omega)).more (by omega)⟩
          case measure => simp [intOf]; omega
        · have hn3 : 1 ≤ n := by omega
          have hn4 : ¬ n < 1 := by omega
          have c0 := Kr.out.cell 0
          simp at c0
          go_wp2_with (fail)
          refine (pick_any g (k + 1 + j) _ wr RW.out (by omega)).mono ?_
          rintro e w5 ⟨z, rfl, hz0', hz1', hw5, hr5⟩
          obtain ⟨z, rfl⟩ := Int.eq_ofNat_of_zero_le hz0'
          have hz : z ≤ 15 := by omega
          have Z5 := Lib.hid (ZW.out.trans hw5)
          have R5 := Lib.hid hr5
          have O5 := Lib.hid (OW.out.kept hw5.grown (.inr fun e => by have := (OW.out.lt g e).1; omega))
          have s5 := hw5.size
          clear hw5 hr5 OW ZW RW hz0' hz1' c0
          have wr2 : Below w5.heap.size w5 (w5.alloc (.cells #[.int .i64 (z : Int)] 3)) := (Below.refl _ _).alloc (Nat.le_refl _) _
          go_wp2_with (at_builtin; refine wpList_append_own _ rfl _ _ 23 rfl W.heap.size 3 i0 (.int .i64 0) 1 8 Try.underlying23 hi hz0 hz1 hz2 rfl (by decide) _ _ _ rfl (O5.out.alloc _) ⟨w5.heap.size, 0, none⟩ 1 1 [.int .i64 (z : Int)] rfl rfl (by intro j u hj; match j, hj with | 0, hj => simp at hj; subst hj; simp [Addr.add]) (by intro u hu; simp at hu; subst hu; rfl) (by unfold maxLen; omega) (by omega) (by simp; omega) ?_; intro v3 w3 hown3 hg3 _)
          have B3 := Lib.hid (((Below.refl W.heap.size w5).trans (wr2.mono (by omega))).grown hg3 (by have := wr2.size; omega) (fun k hk => (O5.out.lt k hk).1))
          have O3 := Lib.hid (show w3.ownsRow W.heap.size 3 1 v3 (j + 1) (((L ++ [z]).map fun (x : Nat) => (x : Int)).map (.int .i64)) by
            rw [List.map_append, List.map_append]; exact hown3)
          clear hown3 hg3 wr2
          go_wp2
          go_roundw
          case rel => exact ⟨j + 1, L ++ [z], by omega, by go_num, by simp [HL.out], (by
            intro x hx
            rcases List.mem_append.1 hx with h | h
            · exact HW'.out x h
            · simp at h; subst h; exact hz), O3.out, Z5.out.on B3.out (Nat.le_refl _), (R5.out.below B3.out (by omega)).more (by omega)⟩
          case measure => simp [intOf]; omega
      · have hn3 : 16 ≤ n := by omega
        have c0 := Kr.out.cell 0
        simp at c0
        go_wp2_with (fail)
        refine (pick_any g (k + 1 + j) _ wr RW.out (by omega)).mono ?_
        rintro e w5 ⟨z, rfl, hz0', hz1', hw5, hr5⟩
        obtain ⟨z, rfl⟩ := Int.eq_ofNat_of_zero_le hz0'
        have hz : z ≤ 15 := by omega
        have Z5 := Lib.hid (ZW.out.trans hw5)
        have R5 := Lib.hid hr5
        have O5 := Lib.hid (OW.out.kept hw5.grown (.inr fun e => by have := (OW.out.lt g e).1; omega))
        have s5 := hw5.size
        clear hw5 hr5 OW ZW RW hz0' hz1' c0
        have wr2 : Below w5.heap.size w5 (w5.alloc (.cells #[.int .i64 (z : Int)] 3)) := (Below.refl _ _).alloc (Nat.le_refl _) _
        go_wp2_with (at_builtin; refine wpList_append_own _ rfl _ _ 23 rfl W.heap.size 3 i0 (.int .i64 0) 1 8 Try.underlying23 hi hz0 hz1 hz2 rfl (by decide) _ _ _ rfl (O5.out.alloc _) ⟨w5.heap.size, 0, none⟩ 1 1 [.int .i64 (z : Int)] rfl rfl (by intro j u hj; match j, hj with | 0, hj => simp at hj; subst hj; simp [Addr.add]) (by intro u hu; simp at hu; subst hu; rfl) (by unfold maxLen; omega) (by omega) (by simp; omega) ?_; intro v3 w3 hown3 hg3 _)
        have B3 := Lib.hid (((Below.refl W.heap.size w5).trans (wr2.mono (by omega))).grown hg3 (by have := wr2.size; omega) (fun k hk => (O5.out.lt k hk).1))
        have O3 := Lib.hid (show w3.ownsRow W.heap.size 3 1 v3 (j + 1) (((L ++ [z]).map fun (x : Nat) => (x : Int)).map (.int .i64)) by
          rw [List.map_append, List.map_append]; exact hown3)
        clear hown3 hg3 wr2
        go_wp2
        go_roundw
        case rel => exact ⟨j + 1, L ++ [z], by omega, by go_num, by simp [HL.out], (by
          intro x hx
          rcases List.mem_append.1 hx with h | h
          · exact HW'.out x h
          · simp at h; subst h; exact hz), O3.out, Z5.out.on B3.out (Nat.le_refl _), (R5.out.below B3.out (by omega)).more (by omega)⟩
        case measure => simp [intOf]; omega
    · have hjp : j = p := by omega
      subst hjp
      obtain ⟨F, hF⟩ : ∃ F : Nat → Nat, (fun i => L[i]?.getD 0) = F := ⟨_, rfl⟩
      have hlp := HL.out
      have O' := Lib.hid (show wr.ownsRow W.heap.size 3 1 u7 j ((lstF F j).map (.int .i64)) by
        have := OW.out
        rw [lst_of_nats, hF, hlp] at this
        exact this)
      have HF := Lib.hid (show ∀ i, F i ≤ 15 by
        intro i
        rw [← hF]
        show L[i]?.getD 0 ≤ 15
        rcases Nat.lt_or_ge i L.length with h | h
        · rw [List.getElem?_eq_getElem h]; exact HW'.out _ (List.getElem_mem h)
        · rw [List.getElem?_eq_none h]; exact Nat.zero_le _)
      have hsh : ∃ A7 c7, u7 = .slice A7 j c7 := by
        rcases OW.out.2 with ⟨h1, h0⟩ | ⟨q, cap, cur, h1, _⟩
        · exact ⟨none, 0, by rw [h1, h0]⟩
        · exact ⟨_, _, h1⟩
      obtain ⟨A7, c7, rfl⟩ := hsh
      clear hF hlp OW HL HW'
      go_wp2_with (fail)
      refine (l9TrimR_any W.heap.size _ j F wr (PolV.of_row O'.out (by omega))).mono ?_
      rintro e w5 ⟨v5, rfl, ho5, hb5⟩
      obtain ⟨t, ht⟩ : ∃ t, tlN F j = t := ⟨_, rfl⟩
      rw [ht] at ho5
      have htj : t ≤ 4 := by have := tl_le (F := F) j; omega
      have hsh5 : ∃ A5 c5, v5 = .slice A5 t c5 := by
        rcases ho5.2 with ⟨h1, h0⟩ | ⟨q, cap, cur, h1, _⟩
        · exact ⟨none, 0, by rw [h1, h0]⟩
        · exact ⟨_, _, h1⟩
      obtain ⟨A5, c5, rfl⟩ := hsh5
      have Z5 := Lib.hid (ZW.out.trans (Below.wk hb5))
      have R5 := Lib.hid (RW.out.next hb5)
      have O5 := Lib.hid ho5
      have s5 := hb5.size
      clear ho5 hb5 ht O' ZW RW
      go_wp2_with (fail)
      refine (pick_any g (k + 1 + j) 40 w5 R5.out (by omega)).mono ?_
      rintro e w6 ⟨x, rfl, hx0', hx1', hw6, hr6⟩
      have Z6 := Lib.hid (Z5.out.trans hw6)
      have R6 := Lib.hid hr6
      have O6 := Lib.hid (O5.out.kept hw6.grown (.inr fun e => by have := (O5.out.lt g e).1; omega))
      have s6 := hw6.size
      clear hw6 hr6 O5 Z5 R5
      have WR := Lib.hid (show ∀ x ∈ lstF F t, Wrd x by
        intro x hx
        unfold lstF at hx
        simp only [List.mem_map] at hx
        obtain ⟨i, _, rfl⟩ := hx
        have := HF.out i
        unfold Wrd
        omega)
      by_cases hx0 : x = 0
      · subst hx0
        have bA : Below w6.heap.size w6 (w6.alloc (.cells #[.int .i64 0, .int .i64 16, .int .i64 (-1)] 3)) := (Below.refl _ _).alloc (Nat.le_refl _) _
        go_wp2_with (fail)
        refine (num_any g (k + 1 + j + 1) _ 3 _ _ [0, 16, -1] _ (R6.out.next bA) (by omega) (ints_lit (w := w6) (l := [0, 16, -1]) (cs := #[.int .i64 0, .int .i64 16, .int .i64 (-1)]) (T := 3) rfl) (fun a ha => by injection ha with ha; subst ha; show w6.heap.size ≠ g; omega) (by omega) (by omega)).mono ?_
        rintro e w7 ⟨jj, hjj, rfl, hw7, hr7⟩
        obtain ⟨z, hz⟩ : ∃ z, ([0, 16, -1] : List Int)[jj]?.getD 0 = z := ⟨_, rfl⟩
        have hzw : Wrd z := by
          rw [← hz]
          unfold Wrd
          match jj, hjj with
          | 0, _ => decide
          | 1, _ => decide
          | 2, _ => decide
        rw [hz]
        have Z7 := Lib.hid ((Z6.out.trans (Below.wk bA)).trans hw7)
        have R7 := Lib.hid hr7
        have O7 := Lib.hid ((O6.out.alloc (.cells #[.int .i64 0, .int .i64 16, .int .i64 (-1)] 3)).kept hw7.grown (.inr fun e => by have := (O6.out.lt g e).1; omega))
        have s7 := hw7.size
        have s7' := bA.size
        clear hw7 hr7 bA hz O6 Z6 R6
        have wr2 : Below w7.heap.size w7 (w7.alloc (.cells #[.int .i64 z] 3)) := (Below.refl _ _).alloc (Nat.le_refl _) _
        go_wp2_with (at_builtin; refine wpList_append_own _ rfl _ _ 23 rfl wr.heap.size 3 i0 (.int .i64 0) 1 8 Try.underlying23 hi hz0 hz1 hz2 rfl (by decide) _ _ _ rfl (O7.out.alloc _) ⟨w7.heap.size, 0, none⟩ 1 1 [.int .i64 z] rfl rfl (by intro j u hj; match j, hj with | 0, hj => simp at hj; subst hj; simp [Addr.add]) (by intro u hu; simp at hu; subst hu; rfl) (by unfold maxLen; omega) (by omega) (by simp; omega) ?_; intro v3 w3 hown3 hg3 _)
        have B3 := Lib.hid (((Below.refl wr.heap.size w7).trans (wr2.mono (by omega))).grown hg3 (by have := wr2.size; omega) (fun k hk => (O7.out.lt k hk).1))
        have O3 := Lib.hid (show w3.ownsRow wr.heap.size 3 1 v3 (t + 1) ((lstF F t ++ [z]).map (.int .i64)) by
          rw [List.map_append]; exact hown3)
        have hsz9 := X0.out.size
        clear hown3 hg3 wr2
        go_wp2
        go_ret
        refine ⟨v3, lstF F t ++ [z], rfl, (SliceOut.of_row O3.out (by simp [lstF_len]) (by omega)).down (by omega), by simp [lstF_len]; omega, ?_, (X0.out.trans Z7.out).on B3.out (by omega), (R7.out.below B3.out (by omega)).more (by omega)⟩
        intro y hy
        rcases List.mem_append.1 hy with h | h
        · exact WR.out y h
        · simp at h; subst h; exact hzw
      · by_cases hx1 : x = 1
        · subst hx1
          have tx0 : ((1 : Int) == 0) = false := by decide
          have hsz9 := X0.out.size
          go_wp2_with (first
            | (at_make; refine wpList_make_full w6 rfl _ _ 23 rfl wr.heap.size 3 i0 (.int .i64 0) 1 Try.underlying23 hi hz0 hz1 .i64 .i64 _ _ 8 rfl rfl rfl rfl (by rw [hz2]; omega) (by unfold maxLen; omega) (by omega) ?_; intro w7 hown7 hg7; have B7 := Lib.hid (show Below w6.heap.size w6 w7 from (Below.refl _ _).grown hg7 (Nat.le_refl _) (by simp)); have O7 := Lib.hid (lstV_made8 hown7); have s7 := hg7.size; clear hown7 hg7)
            | (at_builtin; refine wpList_append_own _ rfl _ _ 23 rfl wr.heap.size 3 i0 (.int .i64 0) 1 8 Try.underlying23 hi hz0 hz1 hz2 rfl (by decide) _ _ _ rfl (O7.out.alloc _) ⟨w7.heap.size, 0, none⟩ 1 1 [.int .i64 1] rfl rfl (by intro j u hj; match j, hj with | 0, hj => simp at hj; subst hj; simp [Addr.add]) (by intro u hu; simp at hu; subst hu; rfl) (by unfold maxLen; omega) (by omega) (by simp; omega) ?_; intro v3 w3 hown3 hg3 _))
          have wr2 : Below w7.heap.size w7 (w7.alloc (.cells #[.int .i64 1] 3)) := (Below.refl _ _).alloc (Nat.le_refl _) _
          have B3 := Lib.hid (((Below.refl wr.heap.size w7).trans (wr2.mono (by omega))).grown hg3 (by have := wr2.size; omega) (fun k hk => (O7.out.lt k hk).1))
          have O3 := Lib.hid (show w3.ownsRow wr.heap.size 3 1 v3 (8 + 1) ((lstF (fun _ => 0) 8 ++ [1]).map (.int .i64)) by
            rw [List.map_append]; exact hown3)
          clear hown3 hg3 wr2
          go_wp2
          go_ret
          refine ⟨v3, lstF (fun _ => 0) 8 ++ [1], rfl, (SliceOut.of_row O3.out (by simp [lstF_len]) (by omega)).down (by omega), by simp [lstF_len], ?_, ((X0.out.trans Z6.out).trans (Below.wk B7.out)).on B3.out (by omega), ((R6.out.next B7.out).below B3.out (by omega)).more (by omega)⟩
          intro y hy
          rcases List.mem_append.1 hy with h | h
          · unfold lstF at h
            simp only [List.mem_map] at h
            obtain ⟨i, _, rfl⟩ := h
            unfold Wrd
            decide
          · simp at h
            subst h
            unfold Wrd
            decide
        · have tx0 : (x == 0) = false := by simpa using hx0
          have tx1 : (x == 1) = false := by simpa using hx1
          have hsz9 := X0.out.size
          go_wp2
          go_ret
          exact ⟨_, lstF F t, rfl, (SliceOut.of_row O6.out (by simp [lstF_len]) (by omega)).down (by omega), by simp [lstF_len]; omega, WR.out, X0.out.trans Z6.out, R6.out.more (by omega)⟩

end Go.Proofs.Ytlcpbdbdiahmjaa

