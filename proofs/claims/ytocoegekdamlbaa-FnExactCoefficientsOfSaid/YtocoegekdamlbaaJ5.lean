
/- CoefficientsOf of both sides. -/
import Derived.Test.YtocoegekdamlbaaJ4
import Derived.Lib.BufferMore
namespace Go.Proofs.Ytocoegekdamlbaa
open Go.RowKit
set_option maxRecDepth 100000

/-- So many digits of a number, the least first. -/
def digK (a n k : Nat) : List Int := (List.range k).map fun j => ((a / n ^ j % n : Nat) : Int)
theorem digK_succ {a n k : Nat} : digK a n (k + 1) = digK a n k ++ [((a / n ^ k % n : Nat) : Int)] := by simp [digK, List.range_succ]
theorem digK_length {a n k : Nat} : (digK a n k).length = k := by simp [digK]
theorem digK_step {a n k : Nat} : a / n ^ k / n = a / n ^ (k + 1) := by rw [Nat.div_div_eq_div_mul, ← Nat.pow_succ]
theorem wrap_natK {r : Nat} (h : r ≤ 4611686018427387904) : wrap64 (r : Int) = r := IntWalk.wrap64_in _ (by constructor <;> omega)

set_option maxHeartbeats 4000000 in
theorem digits_any (a n c : Nat) (w : World) (hn : 1 ≤ n) (hn' : n ≤ 16) (ha : a ≤ 1000000) (hc : c ≤ 1000) :
    Calls Try.prog 52 #[.int .i64 a, .int .i64 n, .int .i64 c] w fun e w' => ∃ v, e = .returned v ∧ w'.ownsRow w.heap.size 3 1 v c ((digK a n c).map (.int .i64)) ∧ Below w.heap.size w w' := by
  obtain ⟨i0, hi, hz0, hz1, hz2⟩ := info_parts int_info
  go_enter Try.func52, Try.ntmps52
  go_wp2
  have O0 := Lib.hid (own_lit_K (w := w) (base := w.heap.size) (e := 3) [] (Nat.le_refl _) (by unfold maxLen; simp))
  have B0 := Lib.hid ((Below.refl w.heap.size w).alloc (Nat.le_refl _) (.cells #[] 3))
  go_loopw [0, 7, 10] (fun av vv i wr => ∃ k : Nat, k ≤ c ∧ i = .int .i64 k ∧ av = .int .i64 ((a / n ^ k : Nat) : Int) ∧ wr.ownsRow w.heap.size 3 1 vv k ((digK a n k).map (.int .i64)) ∧ Below w.heap.size w wr) (fun _ _ i _ => c - (intOf i).toNat)
  case atStart => exact ⟨0, Nat.zero_le _, rfl, by simp, O0.out, B0.out⟩
  case round =>
    obtain ⟨k, hk, rfl, rfl, hown, hbel⟩ := hrel
    have OW := Lib.hid hown
    have BW := Lib.hid hbel
    have hsz := hbel.size
    clear hown hbel
    have DS := Lib.hid (digK_step (a := a) (n := n) (k := k))
    have DL := Lib.hid (digK_succ (a := a) (n := n) (k := k))
    obtain ⟨q, hq⟩ : ∃ q : Nat, a / n ^ k = q := ⟨_, rfl⟩
    have HQ := Lib.hid hq
    rw [hq] at DS DL ⊢
    have hqa : q ≤ 1000000 := Nat.le_trans (by rw [← hq]; exact Nat.div_le_self _ _) ha
    clear hq
    by_cases hlt : k < c
    · obtain ⟨e1, e2⟩ : (q : Int) / n = ((q / n : Nat) : Int) ∧ (q : Int) % n = ((q % n : Nat) : Int) := ⟨by simp, by simp⟩
      have n3 : ¬ n = 0 := by omega
      have E1 := Lib.hid e1
      have E2 := Lib.hid e2
      clear e1 e2
      have wr2 : Below wr.heap.size wr (wr.alloc (.cells #[.int .i64 ((q : Int) % n)] 3)) := (Below.refl _ _).alloc (Nat.le_refl _) _
      go_wp2_with (at_builtin; refine wpList_append_own _ rfl _ _ 22 rfl w.heap.size 3 i0 (.int .i64 0) 1 8 Try.underlying22 hi hz0 hz1 hz2 rfl (by decide) _ _ _ rfl (OW.out.alloc _) ⟨wr.heap.size, 0, none⟩ 1 1 [.int .i64 ((q : Int) % n)] rfl rfl (by intro j u hj; match j, hj with | 0, hj => simp at hj; subst hj; simp [Addr.add]) (by intro u hu; simp at hu; subst hu; rfl) (by unfold maxLen; omega) (by omega) (by simp; omega) ?_; intro v3 w3 hown3 hg3 _)
      have B3 := Lib.hid ((BW.out.trans (wr2.mono hsz)).grown hg3 (Nat.le_trans hsz wr2.size) (fun k hk => (OW.out.lt k hk).1))
      have O3 := Lib.hid (show w3.ownsRow w.heap.size 3 1 v3 (k + 1) ((digK a n (k + 1)).map (.int .i64)) by
        rw [DL.out, List.map_append, List.map_cons, List.map_nil, ← E2.out]; exact hown3)
      clear hown3 hg3 wr2
      go_wp2
      go_roundw
      case rel => exact ⟨k + 1, by omega, by go_num, by rw [E1.out, ← DS.out, wrap_natK (Nat.le_trans (Nat.div_le_self _ _) (by omega))], O3.out, B3.out⟩
      case measure => simp [intOf]; omega
    · have hkc : k = c := by omega
      subst hkc
      go_wp2
      go_ret
      exact ⟨_, rfl, OW.out, BW.out⟩

/-- The digits as an array of four. -/
def digA (a m k : Nat) : Array Value := (Array.range 4).map fun i => .int .i64 (if i < k then ((a / m ^ i % m : Nat) : Int) else 0)
theorem digA_size {a m k : Nat} : (digA a m k).size = 4 := by simp [digA]
theorem digA_get {a m k i : Nat} (h : i < 4) : (digA a m k)[i]? = some (.int .i64 (if i < k then ((a / m ^ i % m : Nat) : Int) else 0)) := by
  unfold digA
  rw [Array.getElem?_map, Array.getElem?_range, if_pos h]; rfl
theorem digA_one {a m k : Nat} : (digA a m k).all (·.oneCell') = true := by
  rw [Array.all_eq_true_iff_forall_mem]
  intro x hx
  simp only [digA, Array.mem_map] at hx
  obtain ⟨i, _, rfl⟩ := hx
  rfl
theorem digA_zero {a m : Nat} : digA a m 0 = #[.int .i64 0, .int .i64 0, .int .i64 0, .int .i64 0] := by
  unfold digA
  rw [show Array.range 4 = #[0, 1, 2, 3] from rfl]
  simp
theorem digA_set {a m k : Nat} : (digA a m k).setIfInBounds k (.int .i64 ((a / m ^ k % m : Nat) : Int)) = digA a m (k + 1) := by
  apply Array.ext
  · simp [digA]
  · intro i h1 h2
    have h4 : i < 4 := by rw [digA_size] at h2; exact h2
    rw [Array.getElem_setIfInBounds (by rw [digA_size]; exact h4)]
    simp only [digA, Array.getElem_map, Array.getElem_range]
    split
    · rename_i e
      subst e
      simp
    · rename_i e
      congr 1
      have : (i < k) = (i < k + 1) := propext ⟨fun h => by omega, fun h => by omega⟩
      simp only [this]

set_option maxHeartbeats 4000000 in
theorem element_any (m a : Nat) (o : Int) (A B F : Option Addr) (la ca lb cb lf cf : Nat) (w : World) (hm : 1 ≤ m) (hm' : m ≤ 16) (hf : lf ≤ 4) (ha : a ≤ 1000000) :
    Calls Try.prog 55 #[.agg (towV m o A B F la ca lb cb lf cf), .int .i64 a] w fun e' w' => e' = .returned (.agg (digA a m lf)) ∧ Below w.heap.size w w' := by
  obtain ⟨W, hW⟩ : ∃ W, ((w.alloc (.cells (towV m o A B F la ca lb cb lf cf) 50)).alloc (.cells (digA a m 0) 54)).alloc (.cells (digA a m 0) 54) = W := ⟨_, rfl⟩
  have k0 : Blk W w.heap.size 50 (towV m o A B F la ca lb cb lf cf) := by subst hW; exact ((Blk.new w _ _).alloc _).alloc _
  have k1 : Blk W (w.heap.size + 1) 54 (digA a m 0) := by
    subst hW
    have := Blk.new (w.alloc (.cells (towV m o A B F la ca lb cb lf cf) 50)) 54 (digA a m 0)
    rw [World.size_alloc] at this
    exact this.alloc _
  have k2 : Blk W (w.heap.size + 2) 54 (digA a m 0) := by
    subst hW
    have := Blk.new ((w.alloc (.cells (towV m o A B F la ca lb cb lf cf) 50)).alloc (.cells (digA a m 0) 54)) 54 (digA a m 0)
    rw [World.size_alloc, World.size_alloc] at this
    exact this
  have b0 : Below w.heap.size w W := by subst hW; exact (((Below.refl _ _).alloc (Nat.le_refl _) _).alloc (by simp) _).alloc (by simp; omega) _
  rw [digA_zero] at hW
  have HW := Lib.hid hW
  have K0 := Lib.hid k0
  have K1 := Lib.hid k1
  have K2 := Lib.hid k2
  have B0 := Lib.hid b0
  obtain ⟨c0, c1, c2, c3, c4⟩ := blk5 k0
  clear hW b0 k0 k1 k2
  go_enter Try.func55, Try.ntmps55
  go_wp2_with (fail)
  rw [HW.out]
  go_wp2
  go_loopg [1, 10] 4 (fun g av vi wr => ∃ k : Nat, k ≤ lf ∧ lf ≤ k + g ∧ vi = .int .i64 k ∧ av = .int .i64 ((a / m ^ k : Nat) : Int) ∧ Blk wr w.heap.size 50 (towV m o A B F la ca lb cb lf cf) ∧ Blk wr (w.heap.size + 1) 54 (digA a m 0) ∧ Blk wr (w.heap.size + 2) 54 (digA a m k) ∧ Below w.heap.size w wr)
  case atStart => exact ⟨0, Nat.zero_le _, by omega, rfl, by simp, K0.out, K1.out, K2.out, B0.out⟩
  case round =>
    obtain ⟨k, hk, hg, rfl, rfl, h0, h1, h2, h3⟩ := hrel
    clear c0 c1 c2 c3 c4
    obtain ⟨c0, c1, c2, c3, c4⟩ := blk5 h0
    have H0 := Lib.hid h0
    have H1 := Lib.hid h1
    have H2 := Lib.hid h2
    have H3 := Lib.hid h3
    clear h0 h1 h2 h3
    by_cases hlt : k < lf
    · have k4 : k < 4 := by omega
      have hc := (H2.out.cell k).trans (digA_get k4)
      have hf := H2.out.frozen k
      have DS := Lib.hid (digK_step (a := a) (n := m) (k := k))
      have ST := Lib.hid (digA_set (a := a) (m := m) (k := k))
      obtain ⟨q, hq⟩ : ∃ q : Nat, a / m ^ k = q := ⟨_, rfl⟩
      have HQ := Lib.hid hq
      rw [hq] at DS ST hc ⊢
      have hqa : q ≤ 1000000 := Nat.le_trans (by rw [← hq]; exact Nat.div_le_self _ _) ha
      clear hq
      obtain ⟨e1, e2⟩ : (q : Int) / m = ((q / m : Nat) : Int) ∧ (q : Int) % m = ((q % m : Nat) : Int) := ⟨by simp, by simp⟩
      have m3 : ¬ m = 0 := by omega
      have E1 := Lib.hid e1
      have E2 := Lib.hid e2
      clear e1 e2
      have i0 : (0 : Int) ≤ (k : Int) := by omega
      have i4 : (k : Int) < 4 := by omega
      go_wp2
      go_roundg (lf - (k + 1))
      case measure => omega
      case rel =>
        refine ⟨k + 1, by omega, by omega, by go_num, by rw [E1.out, ← DS.out, wrap_natK (Nat.le_trans (Nat.div_le_self _ _) (by omega))], H0.out.far (by show w.heap.size ≠ w.heap.size + 2; omega) _, H1.out.far (by show w.heap.size + 1 ≠ w.heap.size + 2; omega) _, ?_, H3.out.setCell (p := ⟨w.heap.size + 2, _, none⟩) (by show w.heap.size ≤ w.heap.size + 2; omega) _⟩
        have := H2.out.set_ k (.int .i64 ((q % m : Nat) : Int))
        rw [ST.out] at this
        rw [E2.out]
        exact this
    · have hkk : k = lf := by omega
      subst hkk
      obtain ⟨S, hS⟩ : ∃ S, digA a m k = S := ⟨_, rfl⟩
      have hs1 : S.size = 4 := by rw [← hS, digA_size]
      have hs2 : S.all (·.oneCell') = true := by rw [← hS]; exact digA_one
      have hi : (Try.prog.info? 54).map (·.size) = some S.size := by rw [hs1]; kernel_rfl
      have hold : (digA a m 0).size = S.size := by rw [hs1, digA_size]
      have hb2 := H2.out
      have hb1 := H1.out
      rw [hS] at hb2
      have HS := Lib.hid hS
      clear hS
      go_wp2_with (first
        | (refine wpList_load_row rfl 54 (.tmp 5) rfl (w.heap.size + 2) rfl _ S (0, 0) _ hb2 Try.underlying54 rfl hi ?_)
        | (refine wpList_store_row rfl 54 (.tmp 4) (.tmp 26) rfl (w.heap.size + 1) S rfl rfl _ (digA a m 0) hb1 hi hold hs2 ?_))
      refine bodyPost_ret (results_cell_row Try.results55 _ _ (w.heap.size + 1) 54 S (0, 0) _ rfl (setRow_heap _ _ _ S _ _ hb1) Try.underlying54 rfl hi) rfl ⟨by rw [HS.out], below_setRow H3.out (by omega) S⟩

theorem clone_any (g off n cap C : Nat) (xs : List Int) (w : World) (hx : Ints w C (some ⟨g, off, none⟩) n xs) (hn : 1 ≤ n) (hn' : n ≤ 1000) :
    Calls Try.prog 56 #[.slice (some ⟨g, off, none⟩) n cap] w fun e w' => ∃ v, e = .returned v ∧ w'.ownsRow w.heap.size 3 1 v n (xs.map (.int .i64)) ∧ Below w.heap.size w w' := by
  obtain ⟨i0, hi, hz0, hz1, hz2⟩ := info_parts int_info
  have hxl := hx.1
  have HX := Lib.hid hx
  have O0 := Lib.hid (own_lit_K (w := w) (base := w.heap.size) (e := 3) [] (Nat.le_refl _) (by unfold maxLen; simp))
  have B0 := Lib.hid ((Below.refl w.heap.size w).alloc (Nat.le_refl _) (.cells #[] 3))
  have hcl := Lib.hid (show ∀ (j : Nat) (u : Value), (xs.map (Value.int .i64))[j]? = some u → (w.alloc (.cells #[] 3)).cell? ((⟨g, off, none⟩ : Addr).add j) = some u by
    intro j u hj
    rw [List.getElem?_map] at hj
    cases hq : xs[j]? with
    | none => rw [hq] at hj; cases hj
    | some y =>
      rw [hq] at hj
      simp only [Option.map_some, Option.some.injEq] at hj
      subst hj
      obtain ⟨b, off', e', hb, hc⟩ := hx.2 (by omega)
      simp only [Option.some.injEq, Addr.mk.injEq, and_true] at e'
      obtain ⟨rfl, rfl⟩ := e'
      have h1 := hc j y hq
      have h2 := (Below.refl w.heap.size w).alloc (Nat.le_refl _) (.cells #[] 3)
      have hadd : (⟨g, off, none⟩ : Addr).add j = ⟨g, off + j, none⟩ := by unfold Addr.add; split <;> simp_all
      rw [hadd]
      exact (h2.cell (block_lt_of_cell h1)).trans h1)
  have hnil := Go.Lib.run_eql_slice_some_nil (P := Try.prog) w ⟨g, off, none⟩ n cap Try.underlying22
  clear hx
  go_enter Try.func56, Try.ntmps56
  go_wp2_with (at_builtin; refine wpList_append_own _ rfl _ _ 22 rfl w.heap.size 3 i0 (.int .i64 0) 1 8 Try.underlying22 hi hz0 hz1 hz2 rfl (by decide) _ _ _ rfl O0.out ⟨g, off, none⟩ n cap (xs.map (.int .i64)) rfl (by simp [hxl]) hcl.out (by intro u hu; simp only [List.mem_map] at hu; obtain ⟨y, _, rfl⟩ := hu; rfl) (by unfold maxLen; simp; omega) (by simp; omega) (by simp) ?_; intro v3 w3 hown3 hg3 _)
  have B3 := Lib.hid (B0.out.grown hg3 (by simp) (fun k hk => (O0.out.lt k hk).1))
  have O3 := Lib.hid (show w3.ownsRow w.heap.size 3 1 v3 n (xs.map (.int .i64)) by simpa using hown3)
  clear hown3 hg3
  go_wp2
  go_ret
  exact ⟨_, rfl, O3.out, B3.out⟩

end Go.Proofs.Ytocoegekdamlbaa
