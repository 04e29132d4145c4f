/- Texts of this seat in one: CI CJ CK CL. -/
import Derived.Test.YtahdkdpliphcnaaNI
import Derived.Test.YtahdkdpliphcnaaNG
import Derived.Test.YtahdkdpliphcnaaMN
import Derived.Test.YtahdkdpliphcnaaMV
import Derived.WalkMore
import Derived.Deep.Cut
import Derived.Deep.MidRow

/- Codes: vectors by their numbers, on both sides. -/
namespace Go.Proofs.Ytahdkdpliphcnaa
open Go.RowKit
set_option maxRecDepth 100000

/-- The digits of a number, the last so many of them. -/
def vF (m n k t i : Nat) : Nat := if n - t ≤ i ∧ i < n then vecF m n k i else 0
theorem vF_zero {m n k : Nat} : vF m n k 0 = fun _ => 0 := funext fun i => if_neg (by omega)
theorem vF_all {m n k i : Nat} (h : i < n) : vF m n k n i = vecF m n k i := if_pos ⟨by omega, h⟩
theorem vF_step {m n k t : Nat} (h : t < n) : putF (vF m n k t) (n - 1 - t) (k / m ^ t % m) = vF m n k (t + 1) := funext fun i => by
  unfold putF vF
  by_cases hi : i = n - 1 - t
  · rw [if_pos hi, if_pos (by omega)]
    unfold vecF
    rw [show n - 1 - i = t by omega]
  · rw [if_neg hi]
    by_cases h2 : n - t ≤ i ∧ i < n
    · rw [if_pos h2, if_pos (by omega)]
    · rw [if_neg h2, if_neg (by omega)]
theorem cdig_step {a n k : Nat} : a / n ^ k / n = a / n ^ (k + 1) := by rw [Nat.div_div_eq_div_mul, ← Nat.pow_succ]
theorem cwrap_nat {r : Nat} (h : r ≤ 4611686018427387904) : wrap64 (r : Int) = r := IntWalk.wrap64_in _ (by constructor <;> omega)

/-- Four numbers as an array. -/
def aA (f : Nat → Nat) : Array Value := (Array.range 4).map fun i => .int .i64 (f i : Nat)
theorem aA_size {f : Nat → Nat} : (aA f).size = 4 := by simp [aA]
theorem aA_get {f : Nat → Nat} {i : Nat} (h : i < 4) : (aA f)[i]? = some (.int .i64 (f i : Nat)) := by
  unfold aA
  rw [Array.getElem?_map, Array.getElem?_range, if_pos h]; rfl
theorem aA_one {f : Nat → Nat} : (aA f).all (·.oneCell') = true := by
  rw [Array.all_eq_true_iff_forall_mem]
  intro x hx
  simp only [aA, Array.mem_map] at hx
  obtain ⟨i, _, rfl⟩ := hx
  rfl
theorem aA_zero : aA (fun _ => 0) = #[.int .i64 0, .int .i64 0, .int .i64 0, .int .i64 0] := by
  unfold aA
  rw [show Array.range 4 = #[0, 1, 2, 3] from rfl]
  simp
theorem aA_set {f : Nat → Nat} {k x : Nat} (_hk : k < 4) : (aA f).setIfInBounds k (.int .i64 (x : Nat)) = aA (putF f k x) := by
  apply Array.ext
  · simp [aA]
  · intro i h1 h2
    have h4 : i < 4 := by rw [aA_size] at h2; exact h2
    rw [Array.getElem_setIfInBounds (by rw [aA_size]; exact h4)]
    simp only [aA, Array.getElem_map, Array.getElem_range]
    unfold putF
    split
    · rename_i e
      subst e
      simp
    · rename_i e
      rw [if_neg (fun h => e h.symm)]

set_option maxHeartbeats 4000000 in
theorem l10Vector_any (m n k : Nat) (w : World) (hm : 1 ≤ m) (hn : 1 ≤ n ∧ n ≤ 4) (hk : k ≤ 1000000) :
    Calls Try.prog 101 #[.int .i64 m, .int .i64 n, .int .i64 k] w fun e' w' => e' = .returned (.slice (some ⟨w.heap.size, 0, none⟩) n n) ∧ w'.ownsRow w.heap.size 3 1 (.slice (some ⟨w.heap.size, 0, none⟩) n n) n ((lstF (vF m n k n) n).map (.int .i64)) ∧ Below w.heap.size w w' := by
  obtain ⟨i0, hi, hz0, hz1, hz2⟩ := info_parts int_info
  obtain ⟨D, hD⟩ : ∃ D, w.heap.size = D := ⟨_, rfl⟩
  have HD := Lib.hid hD
  rw [hD]
  go_enter Try.func101, Try.ntmps101
  go_wp2_with (at_make; refine wpList_make_full _ rfl _ _ 22 rfl D 3 i0 (.int .i64 0) 1 Try.underlying22 hi hz0 hz1 .i64 .i64 _ _ n rfl rfl rfl rfl (by rw [hz2]; omega) (by unfold maxLen; omega) (by omega) ?_; intro w1 hown1 hg1)
  have B1 := Lib.hid (show Below D w w1 from (Below.refl _ _).grown hg1 (by omega) (by simp))
  have O1 := Lib.hid (show w1.ownsRow D 3 1 (.slice (some ⟨D, 0, none⟩) n n) n ((lstF (vF m n k 0) n).map (.int .i64)) by
    rw [vF_zero, ← lstV_made, ← hD]; rw [← hD] at hown1; exact hown1)
  clear hown1 hg1 hD
  go_wp2_with (fail)
  go_loopg [2, 8] n (fun g av vi wr => ∃ t : Nat, t ≤ n ∧ n ≤ t + g ∧ vi = .int .i64 ((n : Int) - 1 - t) ∧ av = .int .i64 ((k / m ^ t : Nat) : Int) ∧ wr.ownsRow D 3 1 (.slice (some ⟨D, 0, none⟩) n n) n ((lstF (vF m n k t) n).map (.int .i64)) ∧ Below D w wr)
  case atStart => exact ⟨0, Nat.zero_le _, by omega, by go_num, by simp, O1.out, B1.out⟩
  case round =>
    obtain ⟨t, ht, hg, rfl, rfl, hown, hb⟩ := hrel
    have OK := Lib.hid hown
    have BK := Lib.hid hb
    clear hown hb
    by_cases hlt : t < n
    · obtain ⟨j, hj⟩ : ∃ j : Nat, n - 1 - t = j := ⟨_, rfl⟩
      have ej : (n : Int) - 1 - (t : Int) = (j : Int) := by omega
      have hjn : j < n := by omega
      have DS := Lib.hid (cdig_step (a := k) (n := m) (k := t))
      have ST := Lib.hid (vF_step (m := m) (k := k) hlt)
      rw [hj] at ST
      have hc := OK.out.cellAt j (by omega)
      rw [lstV_get hjn] at hc
      have hf := OK.out.frozenAt j
      obtain ⟨q, hq⟩ : ∃ q : Nat, k / m ^ t = q := ⟨_, rfl⟩
      rw [hq] at DS ST ⊢
      have hqa : q ≤ 1000000 := Nat.le_trans (by rw [← hq]; exact Nat.div_le_self _ _) hk
      clear hq
      obtain ⟨e1, e2⟩ : (q : Int) / m = ((q / m : Nat) : Int) ∧ (q : Int) % m = ((q % m : Nat) : Int) := ⟨by simp, by simp⟩
      have m3 : ¬ m = 0 := by omega
      have E1 := Lib.hid e1
      have E2 := Lib.hid e2
      clear e1 e2
      have i0 : (0 : Int) ≤ (j : Int) := by omega
      have i4 : (j : Int) < (n : Int) := by omega
      rw [ej]
      have HE := Lib.hid (show (j : Int) - 1 = (n : Int) - 1 - ((t + 1 : Nat) : Int) by omega)
      clear ej hj
      go_wp2
      go_roundg (n - (t + 1))
      case measure => omega
      case rel =>
        refine ⟨t + 1, by omega, by omega, by rw [← HE.out], by rw [E1.out, ← DS.out, cwrap_nat (Nat.le_trans (Nat.div_le_self _ _) (by omega))], ?_, BK.out.setCell (by show D ≤ D; exact Nat.le_refl _) _⟩
        rw [← ST.out, ← lstV_set hjn, E2.out]
        exact (OK.out.stored j _).1
    · have htn : t = n := by omega
      subst htn
      have hneg : ¬ (0 : Int) ≤ (t : Int) - 1 - (t : Int) := by omega
      have hneg2 : (t : Int) - 1 - (t : Int) = -1 := by omega
      rw [hneg2]
      go_wp2
      go_ret
      exact ⟨rfl, OK.out, BK.out⟩

set_option maxHeartbeats 4000000 in
theorem vector_any (m n k : Nat) (o : Int) (A B : Option Addr) (la ca lb cb : Nat) (w : World) (hm : 1 ≤ m) (hn : 1 ≤ n ∧ n ≤ 4) (hk : k ≤ 1000000) :
    Calls Try.prog 85 #[.agg (spV m o A B la ca lb cb n), .int .i64 k] w fun e' w' => e' = .returned (.agg (aA (vF m n k n))) ∧ Below w.heap.size w w' := by
  obtain ⟨W, hW⟩ : ∃ W, ((w.alloc (.cells (spV m o A B la ca lb cb n) 59)).alloc (.cells (aA (fun _ => 0)) 98)).alloc (.cells (aA (fun _ => 0)) 98) = W := ⟨_, rfl⟩
  have k0 : Blk W w.heap.size 59 (spV m o A B la ca lb cb n) := by subst hW; exact ((Blk.new w _ _).alloc _).alloc _
  have k1 : Blk W (w.heap.size + 1) 98 (aA (fun _ => 0)) := by
    subst hW
    have := Blk.new (w.alloc (.cells (spV m o A B la ca lb cb n) 59)) 98 (aA (fun _ => 0))
    rw [World.size_alloc] at this
    exact this.alloc _
  have k2 : Blk W (w.heap.size + 2) 98 (aA (fun _ => 0)) := by
    subst hW
    have := Blk.new ((w.alloc (.cells (spV m o A B la ca lb cb n) 59)).alloc (.cells (aA (fun _ => 0)) 98)) 98 (aA (fun _ => 0))
    rw [World.size_alloc, World.size_alloc] at this
    exact this
  have b0 : Below w.heap.size w W := by subst hW; exact (((Below.refl _ _).alloc (Nat.le_refl _) _).alloc (by simp) _).alloc (by simp; omega) _
  rw [aA_zero] at hW
  have HW := Lib.hid hW
  have K0 := Lib.hid k0
  have K1 := Lib.hid k1
  have K2 := Lib.hid k2
  have B0 := Lib.hid b0
  obtain ⟨c0, c1, c2, c3, c4⟩ := cblk5 k0
  clear hW b0 k0 k1 k2
  go_enter Try.func85, Try.ntmps85
  go_wp2_with (fail)
  rw [HW.out]
  go_wp2
  go_loopg [1, 6] n (fun g av vi wr => ∃ t : Nat, t ≤ n ∧ n ≤ t + g ∧ vi = .int .i64 ((n : Int) - 1 - t) ∧ av = .int .i64 ((k / m ^ t : Nat) : Int) ∧ Blk wr w.heap.size 59 (spV m o A B la ca lb cb n) ∧ Blk wr (w.heap.size + 1) 98 (aA (fun _ => 0)) ∧ Blk wr (w.heap.size + 2) 98 (aA (vF m n k t)) ∧ Below w.heap.size w wr)
  case atStart => exact ⟨0, Nat.zero_le _, by omega, by go_num, by simp, K0.out, K1.out, by rw [vF_zero]; exact K2.out, B0.out⟩
  case round =>
    obtain ⟨t, ht, hg, rfl, rfl, h0, h1, h2, h3⟩ := hrel
    clear c0 c1 c2 c3 c4
    obtain ⟨c0, c1, c2, c3, c4⟩ := cblk5 h0
    have H0 := Lib.hid h0
    have H1 := Lib.hid h1
    have H2 := Lib.hid h2
    have H3 := Lib.hid h3
    clear h0 h1 h2 h3
    by_cases hlt : t < n
    · obtain ⟨j, hj⟩ : ∃ j : Nat, n - 1 - t = j := ⟨_, rfl⟩
      have ej : (n : Int) - 1 - (t : Int) = (j : Int) := by omega
      have hjn : j < 4 := by omega
      have DS := Lib.hid (cdig_step (a := k) (n := m) (k := t))
      have ST := Lib.hid (vF_step (m := m) (k := k) hlt)
      rw [hj] at ST
      have hc := (H2.out.cell j).trans (aA_get hjn)
      have hf := H2.out.frozen j
      obtain ⟨q, hq⟩ : ∃ q : Nat, k / m ^ t = q := ⟨_, rfl⟩
      rw [hq] at DS ST ⊢
      have hqa : q ≤ 1000000 := Nat.le_trans (by rw [← hq]; exact Nat.div_le_self _ _) hk
      clear hq
      obtain ⟨e1, e2⟩ : (q : Int) / m = ((q / m : Nat) : Int) ∧ (q : Int) % m = ((q % m : Nat) : Int) := ⟨by simp, by simp⟩
      have m3 : ¬ m = 0 := by omega
      have E1 := Lib.hid e1
      have E2 := Lib.hid e2
      clear e1 e2
      have i0 : (0 : Int) ≤ (j : Int) := by omega
      have i4 : (j : Int) < 4 := by omega
      rw [ej]
      have HE := Lib.hid (show (j : Int) - 1 = (n : Int) - 1 - ((t + 1 : Nat) : Int) by omega)
      clear ej hj
      go_wp2
      go_roundg (n - (t + 1))
      case measure => omega
      case rel =>
        refine ⟨t + 1, by omega, by omega, by rw [← HE.out], by rw [E1.out, ← DS.out, cwrap_nat (Nat.le_trans (Nat.div_le_self _ _) (by omega))], H0.out.far (by show w.heap.size ≠ w.heap.size + 2; omega) _, H1.out.far (by show w.heap.size + 1 ≠ w.heap.size + 2; omega) _, ?_, H3.out.setCell (p := ⟨w.heap.size + 2, _, none⟩) (by show w.heap.size ≤ w.heap.size + 2; omega) _⟩
        rw [← ST.out, ← aA_set hjn, E2.out]
        exact H2.out.set_ j _
    · have htn : t = n := by omega
      subst htn
      obtain ⟨S, hS⟩ : ∃ S, aA (vF m t k t) = S := ⟨_, rfl⟩
      have hs1 : S.size = 4 := by rw [← hS, aA_size]
      have hs2 : S.all (·.oneCell') = true := by rw [← hS]; exact aA_one
      have hi : (Try.prog.info? 98).map (·.size) = some S.size := by rw [hs1]; kernel_rfl
      have hold : (aA (fun _ => 0)).size = S.size := by rw [hs1, aA_size]
      have hb2 := H2.out
      have hb1 := H1.out
      rw [hS] at hb2
      have HS := Lib.hid hS
      clear hS
      have hneg2 : (t : Int) - 1 - (t : Int) = -1 := by omega
      rw [hneg2]
      go_wp2_with (first
        | (refine wpList_load_row rfl 98 (.tmp 5) rfl (w.heap.size + 2) rfl _ S (0, 0) _ hb2 Try.underlying98 rfl hi ?_)
        | (refine wpList_store_row rfl 98 (.tmp 4) (.tmp 26) rfl (w.heap.size + 1) S rfl rfl _ (aA (fun _ => 0)) hb1 hi hold hs2 ?_))
      refine bodyPost_ret (results_cell_row Try.results85 _ _ (w.heap.size + 1) 98 S (0, 0) _ rfl (setRow_heap _ _ _ S _ _ hb1) Try.underlying98 rfl hi) rfl ⟨by rw [HS.out], below_setRow H3.out (by omega) S⟩

end Go.Proofs.Ytahdkdpliphcnaa



/- Codes: solutions of systems: the reading side's l10Solve. -/
namespace Go.Proofs.Ytahdkdpliphcnaa
open Go.RowKit Go.Shelf
set_option maxRecDepth 100000

def okK (m : Nat) (S P : Nat → Nat) (n : Nat) (RR : List (List Int)) (VV : List Int) (k : Nat) : Bool := decide (∀ i, i < RR.length → ((dotN m S P (tabOf (RR[i]?.getD [])) (vecF m n k) n : Nat) : Int) = VV[i]?.getD 0)
def solN (m : Nat) (S P : Nat → Nat) (n : Nat) (RR : List (List Int)) (VV : List Int) (q : Nat) : List Nat := (List.range q).filter (okK m S P n RR VV)
def solL (m : Nat) (S P : Nat → Nat) (n : Nat) (RR : List (List Int)) (VV : List Int) (q : Nat) : List (List Int) := (solN m S P n RR VV q).map fun k => lstF (vecF m n k) n
section
variable {m n q : Nat} {S P : Nat → Nat} {RR : List (List Int)} {VV : List Int}
theorem solN_yes (h : okK m S P n RR VV q = true) : solN m S P n RR VV (q + 1) = solN m S P n RR VV q ++ [q] := by unfold solN; rw [List.range_succ, List.filter_append]; simp [h]
theorem solN_no (h : okK m S P n RR VV q = false) : solN m S P n RR VV (q + 1) = solN m S P n RR VV q := by unfold solN; rw [List.range_succ, List.filter_append]; simp [h]
theorem solN_len : (solN m S P n RR VV q).length ≤ q := by unfold solN; exact Nat.le_trans (List.length_filter_le _ _) (by simp)
theorem solL_yes (h : okK m S P n RR VV q = true) : solL m S P n RR VV (q + 1) = solL m S P n RR VV q ++ [lstF (vecF m n q) n] := by unfold solL; rw [solN_yes h, List.map_append]; rfl
theorem solL_no (h : okK m S P n RR VV q = false) : solL m S P n RR VV (q + 1) = solL m S P n RR VV q := by unfold solL; rw [solN_no h]
theorem solL_len : (solL m S P n RR VV q).length ≤ q := by unfold solL; rw [List.length_map]; exact solN_len
theorem solL_length {i : Nat} {Z : List Int} (h : (solL m S P n RR VV q)[i]? = some Z) : Z.length = n := by
  unfold solL at h
  rw [List.getElem?_map, Option.map_eq_some_iff] at h
  obtain ⟨k, _, rfl⟩ := h
  rw [lstF_len]
theorem ok_no {i k : Nat} {Z : List Int} (hZ : RR[i]? = some Z) (h : ¬ ((dotN m S P (tabOf Z) (vecF m n k) n : Nat) : Int) = VV[i]?.getD 0) : okK m S P n RR VV k = false := decide_eq_false fun g => by
  have := g i (List.getElem?_eq_some_iff.1 hZ).1
  rw [spc_one hZ] at this
  exact h this
end
theorem vF_lst {m n k : Nat} : lstF (vF m n k n) n = lstF (vecF m n k) n := lstF_congr fun _ hi => vF_all hi
/-- Rows of a length whose numbers are elements. -/
def RowsOk (m n : Nat) (RR : List (List Int)) : Prop := ∀ (i : Nat) (Z : List Int), RR[i]? = some Z → Z.length = n ∧ (∀ j, j < n → tabOf Z j < m) ∧ lstF (tabOf Z) n = Z

theorem LLo.downL {D D' : Nat} {w : World} {v : Value} {ZZ : List (List Int)} (h : LLo D w v ZZ) (hD : D' ≤ D) : LLo D' w v ZZ := by
  obtain ⟨xs, h1, h2⟩ := h
  exact ⟨xs, own_base h1 hD, h2.1, fun i Z hZ => by obtain ⟨B, l, c, e1, e2, e3⟩ := h2.2 i Z hZ; exact ⟨B, l, c, e1, e2.down hD, e3⟩⟩

set_option maxHeartbeats 8000000 in
theorem l10Solve_any (n : Nat) (C : Option Addr) (nr cv : Nat) (RR : List (List Int)) (VV : List Int) (v : Value) (m e b1 o1 la ca b2 o2 lb cb : Nat) (S P : Nat → Nat) (w : World) (hr : RingAt w m e b1 o1 la ca b2 o2 lb cb S P) (hn : 1 ≤ n ∧ n ≤ 4) (hR : Rws w w.heap.size v RR) (hV : Ints w w.heap.size C nr VV) (hnr : RR.length = nr) (hnr3 : nr ≤ 300) (hq : m ^ n ≤ 300) (hrow : RowsOk m n RR) (hcom : ∀ x y, x < m → y < m → P (x * m + y) = P (y * m + x)) :
    Calls Try.prog 83 #[.agg #[.int .i64 m, .int .i64 e, .slice (some ⟨b1, o1, none⟩) la ca, .slice (some ⟨b2, o2, none⟩) lb cb], .int .i64 n, v, .slice C nr cv] w fun e' w' => ∃ v', e' = .returned v' ∧ LLo w.heap.size w' v' (solL m S P n RR VV (m ^ n)) ∧ Below w.heap.size w w' := by
  obtain ⟨i0, hi, hz0, hz1, hz2⟩ := info_parts sl_info
  obtain ⟨Ar, cr, rfl, hRR⟩ := hR
  have HRR := Lib.hid hRR
  have HNR := Lib.hid hnr
  have HRO := Lib.hid hrow
  have HCO := Lib.hid hcom
  rw [hnr]
  have hm := hr.hm
  have hm' := hr.hm'
  obtain ⟨W, hW⟩ : ∃ W, w.alloc (.cells #[.int .i64 m, .int .i64 e, .slice (some ⟨b1, o1, none⟩) la ca, .slice (some ⟨b2, o2, none⟩) lb cb] 27) = W := ⟨_, rfl⟩
  have k0 : Blk W w.heap.size 27 #[.int .i64 m, .int .i64 e, .slice (some ⟨b1, o1, none⟩) la ca, .slice (some ⟨b2, o2, none⟩) lb cb] := by subst hW; exact Blk.new w _ _
  have b0 : Below w.heap.size w W := by subst hW; exact (Below.refl _ _).alloc (Nat.le_refl _) _
  have sW : W.heap.size = w.heap.size + 1 := by subst hW; simp
  obtain ⟨U, hU⟩ : ∃ U, W.alloc (.cells #[] 22) = U := ⟨_, rfl⟩
  have bU : Below W.heap.size W U := by subst hU; exact (Below.refl _ _).alloc (Nat.le_refl _) _
  have oU : U.ownsRow W.heap.size 22 1 (.slice (some ⟨w.heap.size + 1, 0, none⟩) 0 0) 0 [] := by
    subst hU
    have := own_lit_K (w := W) (base := W.heap.size) (e := 22) [] (Nat.le_refl _) (by unfold maxLen; simp)
    simpa [sW] using this
  have R0 := Lib.hid (hr.next b0)
  have V0 := Lib.hid (hV.next b0)
  have B0 := Lib.hid b0
  have BUU := Lib.hid bU
  have O0 := Lib.hid oU
  have HW := Lib.hid hW
  have HU := Lib.hid hU
  have K0 := Lib.hid k0
  have KU := Lib.hid (k0.next bU)
  clear hr hV hRR hrow hcom b0 bU oU hW hU k0
  obtain ⟨q, hqq⟩ : ∃ q, m ^ n = q := ⟨_, rfl⟩
  have HQ := Lib.hid (show min (m ^ n) 301 = q by omega)
  rw [hqq] at hq
  have HQQ := Lib.hid hqq
  rw [hqq]
  clear hqq
  go_enter Try.func83, Try.ntmps83
  go_wp2_with (fail)
  rw [HW.out]
  go_step3
  go_upto_region 2 with (fail)
  rw [HU.out]
  obtain ⟨c0, c1, c2, c3⟩ := blk4 KU.out
  go_step3
  go_wp2_with (go_at_call 72; ((with_reducible refine (l10Count_any m n _ hm hm' (by omega)).mono ?_); rintro e1 w1 ⟨rfl, rfl⟩; rw [Int.toNat_natCast, HQ.out]))
  go_loopg [9, 19] q (fun g vs vi wr => ∃ k : Nat, k ≤ q ∧ q ≤ k + g ∧ vi = .int .i64 k ∧ LLo W.heap.size wr vs (solL m S P n RR VV k) ∧ Below W.heap.size W wr)
  case atStart => exact ⟨0, Nat.zero_le _, by omega, rfl, LLo.empty O0.out, BUU.out⟩
  case round =>
    obtain ⟨k, hk, hg, rfl, hown, hb⟩ := hrel
    obtain ⟨wo, rfl⟩ : ∃ x, x = wr := ⟨_, rfl⟩
    have OW := Lib.hid hown
    have BU := Lib.hid hb
    have BW := Lib.hid (below_step B0.out hb)
    have hsz := BU.out.size
    have KW := Lib.hid (K0.out.next hb)
    clear hown hb c0 c1 c2 c3
    obtain ⟨c0, c1, c2, c3⟩ := blk4 KW.out
    by_cases hlt : k < q
    · go_upto_region 6 with (go_at_call 101; ((with_reducible refine (l10Vector_any m n k _ hm hn (by omega)).mono ?_); rintro e2 w2 ⟨rfl, ho2, hb2⟩; have OV := Lib.hid ho2; have B2 := Lib.hid hb2; clear hb2 ho2))
      have s2 := B2.out.size
      have OW2 := Lib.hid (OW.out.next B2.out)
      have K2 := Lib.hid (KW.out.next B2.out)
      have BU2 := Lib.hid (below_step BU.out B2.out)
      have FV := Lib.hid (show Ints w2 w2.heap.size (some ⟨wo.heap.size, 0, none⟩) n (lstF (vecF m n k) n) by
        have := ints_of_own OV.out (by rw [lstF_len])
        rwa [vF_lst] at this)
      clear c0 c1 c2 c3
      go_wp2
      go_loopg [29] nr (fun g2 vi wr2 => ∃ y : Nat, y ≤ nr ∧ nr ≤ y + g2 ∧ vi = .int .i64 y ∧ (∀ j, j < y → ((dotN m S P (tabOf (RR[j]?.getD [])) (vecF m n k) n : Nat) : Int) = VV[j]?.getD 0) ∧ Below w2.heap.size w2 wr2)
      case atStart => exact ⟨0, Nat.zero_le _, by omega, rfl, fun j hj => absurd hj (by omega), Below.refl _ _⟩
      case round =>
        obtain ⟨y, hy, hg2, rfl, hall, hb⟩ := hrel
        have HALL := Lib.hid hall
        have BX := Lib.hid hb
        have KX := Lib.hid (K2.out.next hb)
        have BXU := Lib.hid (below_step BU2.out hb)
        have BXW := Lib.hid (below_step B0.out BXU.out)
        have B2X := Lib.hid (below_step B2.out hb)
        have RX := Lib.hid (R0.out.next BXU.out)
        have OX := Lib.hid (OW2.out.next hb)
        have FX := Lib.hid (FV.out.next hb)
        have VX := Lib.hid (V0.out.next BXU.out)
        clear hall hb
        obtain ⟨c0, c1, c2, c3⟩ := blk4 KX.out
        by_cases hlt2 : y < nr
        · obtain ⟨Z, hZ⟩ : ∃ Z, RR[y]? = some Z := ⟨_, List.getElem?_eq_getElem (by rw [HNR.out]; exact hlt2)⟩
          obtain ⟨g', off, Bz, cz, rfl, h2, hc, h4, h5, h6⟩ := HRR.out y Z hZ
          have hck := (BXW.out.cell (p := ⟨g', off + y, none⟩) h2).trans hc
          obtain ⟨hzl, hzm, hzz⟩ := HRO.out y Z hZ
          rw [hzl] at hck h6
          have IZ := Lib.hid (show Ints wr wr.heap.size Bz n (lstF (tabOf Z) n) by rw [hzz]; exact (h6.below BXW.out (Nat.le_refl _)).more BXW.out.size)
          obtain ⟨b', off', rfl, hbb, hcv⟩ := ints_cell VX.out hlt2
          obtain ⟨x, hx⟩ : ∃ x, VV[y]?.getD 0 = x := ⟨_, rfl⟩
          rw [hx] at hcv
          obtain ⟨d, hd⟩ : ∃ d, dotN m S P (tabOf Z) (vecF m n k) n = d := ⟨_, rfl⟩
          have DC : dotN m S P (vecF m n k) (tabOf Z) n = d := by rw [← hd]; exact dot_comm HCO.out (fun i _ => vec_lt hm n k i) hzm n (Nat.le_refl _)
          have LD := Lib.hid (show ∀ u : Ext wr, Calls Try.prog 45 #[.agg #[.int .i64 m, .int .i64 e, .slice (some ⟨b1, o1, none⟩) la ca, .slice (some ⟨b2, o2, none⟩) lb cb], .slice (some ⟨wo.heap.size, 0, none⟩) n n, .slice Bz n cz] (ext wr u) fun e' w' => e' = .returned (.int .i64 (d : Nat)) ∧ Below (ext wr u).heap.size (ext wr u) w' from fun u => by
            have := l10Dot_any (vecF m n k) (tabOf Z) (some ⟨wo.heap.size, 0, none⟩) Bz n n cz m e b1 o1 la ca b2 o2 lb cb S P (ext wr u) (RX.out.ext _) (FX.out.next (ext_below _ _)) (IZ.out.next (ext_below _ _)) (by omega) (fun i _ => vec_lt hm n k i) hzm
            rwa [DC] at this)
          have HXV := Lib.hid hx
          have HD := Lib.hid hd
          have HZ := Lib.hid hZ
          clear hc hZ h6 hzl hzm hzz hx hd DC h4 h5
          by_cases hdx : (d : Int) = x
          · have t1 : ((d : Int) != x) = false := by rw [hdx]; simp
            have t2 : ((d : Int) == x) = true := by rw [hdx]; simp
            have NX := Lib.hid (show ∀ j, j < y + 1 → ((dotN m S P (tabOf (RR[j]?.getD [])) (vecF m n k) n : Nat) : Int) = VV[j]?.getD 0 from fun j hj => by
              rcases Nat.lt_or_ge j y with h | h
              · exact HALL.out j h
              · obtain rfl : j = y := by omega
                rw [spc_one HZ.out, HD.out, HXV.out]
                exact hdx)
            have hdx' := Lib.hid hdx
            clear hdx
            go_wp2_with (fail)
            refine wp_region_ext (by kernel_rfl) (by kernel_rfl) ?_
            repeat (go_big_quiet_step (first
              | (go_at_call 45; with_reducible refine calls_ext (LD.out _))))
            refine wpQuiet_nil ?_
            intro w3 hb3
            have B3 := Lib.hid (below_step BX.out hb3)
            clear hb3
            go_wp2
            go_roundg (nr - (y + 1))
            case measure => omega
            case rel => exact ⟨y + 1, by omega, by omega, by go_num, NX.out, B3.out⟩
          · have t1 : ((d : Int) != x) = true := by rw [bne_iff_ne]; exact hdx
            have t2 : ((d : Int) == x) = false := by rw [beq_eq_false_iff_ne]; exact hdx
            have HNO := Lib.hid (solL_no (ok_no (P := P) (S := S) (m := m) (n := n) HZ.out (VV := VV) (k := k) (by rw [HD.out, HXV.out]; exact hdx)))
            go_wp2_with (fail)
            refine wp_region_ext (by kernel_rfl) (by kernel_rfl) ?_
            repeat (go_big_quiet_step (first
              | (go_at_call 45; with_reducible refine calls_ext (LD.out _))))
            refine wpQuiet_nil ?_
            intro w3 hb3
            have B3 := Lib.hid (below_step BXU.out hb3)
            have O3 := Lib.hid (OX.out.next hb3)
            clear hb3
            go_wp2
            go_roundg (q - (k + 1))
            case measure => omega
            case rel => exact ⟨k + 1, by omega, by omega, by go_num, by rw [HNO.out]; exact O3.out, B3.out⟩
        · have hyn : y = nr := by omega
          subst hyn
          have HYES := Lib.hid (solL_yes (m := m) (S := S) (P := P) (n := n) (RR := RR) (VV := VV) (q := k) (decide_eq_true fun i hi => HALL.out i (by rw [← HNR.out]; exact hi)))
          obtain ⟨xs, hx1, hx2⟩ := OW.out
          have HX1 := Lib.hid hx1
          have XO := Lib.hid (own_nextK hx1 B2X.out)
          have LX := Lib.hid (hx2.next B2X.out)
          have OA := Lib.hid (show Own wr W.heap.size (some ⟨wo.heap.size, 0, none⟩) n (lstF (vecF m n k) n) by
            have := own_of_row OV.out (by rw [lstF_len])
            rw [vF_lst] at this
            exact (this.next BX.out).down hsz)
          have hzl : (solL m S P n RR VV k).length ≤ 300 := Nat.le_trans solL_len (by omega)
          have hsx := BXW.out.size
          clear hx1 hx2
          go_wp2_with (at_builtin; refine wpList_append_own_at _ rfl _ _ 35 rfl W.heap.size 22 i0 (.slice none 0 0) 1 24 Try.underlying35 hi hz0 hz1 hz2 rfl (by decide) _ _ _ rfl (XO.out.alloc _) ⟨wr.heap.size, 0, none⟩ 1 1 [.slice (some ⟨wo.heap.size, 0, none⟩) n n] rfl rfl (by intro i u hi; match i, hi with | 0, hi => simp at hi; subst hi; simp [Addr.add]) (by intro u hu; simp at hu; subst hu; rfl) (by unfold maxLen; omega) (by omega) (by simp; omega) ?_; intro v6 w6 hown6 hg6 _ hloc6; have HO6 := Lib.hid hown6; have HG6 := Lib.hid hg6; have HL6 := Lib.hid hloc6; have B6 := Lib.hid ((BXU.out.alloc BXU.out.size (.cells #[.slice (some ⟨wo.heap.size, 0, none⟩) n n] 22)).grown hg6 (Nat.le_trans BXU.out.size (by simp)) (fun k hk => (XO.out.lt k hk).1)); clear hown6 hg6 hloc6)
          go_roundg (q - (k + 1))
          case measure => omega
          case rel =>
            refine ⟨k + 1, by omega, by omega, by go_num, ?_, B6.out⟩
            rw [HYES.out]
            refine ⟨xs ++ [.slice (some ⟨wo.heap.size, 0, none⟩) n n], by simpa using HO6.out, LLs.more LX.out OA.out (Nat.le_refl _) (by omega) (fun g off hl e e' => ?_) HG6.out HL6.out⟩
            simp only [Option.some.injEq, Addr.mk.injEq, and_true] at e
            have := (HX1.out.lt _ e').2
            omega
    · have hkq : k = q := by omega
      subst hkq
      go_wp2
      try rw [Exit.noGoto_ret]
      go_ret
      exact ⟨_, rfl, OW.out.downL (by omega), BW.out⟩

end Go.Proofs.Ytahdkdpliphcnaa



/- Codes: solutions of systems: the program's solutions. -/
namespace Go.Proofs.Ytahdkdpliphcnaa
open Go.RowKit Go.Shelf
set_option maxRecDepth 100000

theorem aA_lit {f : Nat → Nat} : aA f = #[.int .i64 (f 0 : Nat), .int .i64 (f 1 : Nat), .int .i64 (f 2 : Nat), .int .i64 (f 3 : Nat)] := by
  unfold aA
  rw [show Array.range 4 = #[0, 1, 2, 3] from rfl]
  simp
theorem vec_info : (Try.prog.info? 98).map (fun i => (i.zero, i.size, i.bytes)) = some (some (.agg #[.int .i64 0, .int .i64 0, .int .i64 0, .int .i64 0]), 4, 32) := by kernel_rfl
/-- The numbers of vectors one after another. -/
def solV (m n : Nat) (l : List Nat) : List Value := l.flatMap fun k => (aA (vF m n k n)).toList
theorem solV_snoc {m n k : Nat} {l : List Nat} : solV m n (l ++ [k]) = solV m n l ++ (aA (vF m n k n)).toList := by simp [solV]
theorem arr_ints {w : World} {D g n : Nat} {T : TypeId} {f : Nat → Nat} (h : Blk w g T (aA f)) (hg : g < D) (hn : n ≤ 4) : Ints w D (some ⟨g, 0, none⟩) n (lstF f n) :=
  ⟨lstF_len, fun _ => ⟨g, 0, rfl, hg, fun k y hk => by
    have hkn : k < n := by have := (List.getElem?_eq_some_iff.1 hk).1; rwa [lstF_len] at this
    rw [lstF_get hkn] at hk
    cases hk
    rw [Nat.zero_add, h.cell, aA_get (by omega)]⟩⟩

set_option maxHeartbeats 8000000 in
theorem solutions_any (n : Nat) (C : Option Addr) (nr cv : Nat) (RR : List (List Int)) (VV : List Int) (v : Value) (m e b1 o1 la ca b2 o2 lb cb : Nat) (S P : Nat → Nat) (w : World) (hr : RingAt w m e b1 o1 la ca b2 o2 lb cb S P) (hn : 1 ≤ n ∧ n ≤ 4) (hR : Rws w w.heap.size v RR) (hV : Ints w w.heap.size C nr VV) (hnr : RR.length = nr) (hnr3 : nr ≤ 300) (hq : m ^ n ≤ 300) (hrow : RowsOk m n RR) :
    Calls Try.prog 52 #[.agg (spV m e (some ⟨b1, o1, none⟩) (some ⟨b2, o2, none⟩) la ca lb cb n), v, .slice C nr cv] w fun e' w' => ∃ v', e' = .returned v' ∧ w'.ownsRow w.heap.size 98 4 v' (solN m S P n RR VV (m ^ n)).length (solV m n (solN m S P n RR VV (m ^ n))) ∧ Below w.heap.size w w' := by
  obtain ⟨i0, hi, hz0, hz1, hz2⟩ := info_parts vec_info
  obtain ⟨Ar, cr, rfl, hRR⟩ := hR
  have HRR := Lib.hid hRR
  have HNR := Lib.hid hnr
  have HRO := Lib.hid hrow
  rw [hnr]
  have hm := hr.hm
  have hm' := hr.hm'
  obtain ⟨W, hW⟩ : ∃ W, w.alloc (.cells (spV m e (some ⟨b1, o1, none⟩) (some ⟨b2, o2, none⟩) la ca lb cb n) 59) = W := ⟨_, rfl⟩
  have k0 : Blk W w.heap.size 59 (spV m e (some ⟨b1, o1, none⟩) (some ⟨b2, o2, none⟩) la ca lb cb n) := by subst hW; exact Blk.new w _ _
  have b0 : Below w.heap.size w W := by subst hW; exact (Below.refl _ _).alloc (Nat.le_refl _) _
  have sW : W.heap.size = w.heap.size + 1 := by subst hW; simp
  have R0 := Lib.hid (hr.next b0)
  have V0 := Lib.hid (hV.next b0)
  have B0 := Lib.hid b0
  have O0 := Lib.hid (show W.ownsRow W.heap.size 98 4 (.slice none 0 0) 0 [] from ⟨by simp, .inl ⟨rfl, rfl⟩⟩)
  have HW := Lib.hid hW
  have K0 := Lib.hid k0
  clear hr hV hRR hrow b0 hW k0
  obtain ⟨q, hqq⟩ : ∃ q, m ^ n = q := ⟨_, rfl⟩
  rw [hqq] at hq
  have HQQ := Lib.hid hqq
  have hnA : (n : Int) ≤ 4 := by omega
  have hnB : (0 : Int) ≤ (n : Int) := by omega
  have hnC : ((n : Int)).toNat = n := Int.toNat_natCast n
  rw [hqq]
  clear hqq
  go_enter Try.func52, Try.ntmps52
  go_wp2_with (fail)
  rw [HW.out]
  obtain ⟨c0, c1, c2, c3, c4⟩ := cblk5 K0.out
  go_step3
  go_wp2
  go_step3
  go_wp2_with (go_at_call 73; ((with_reducible refine (count_any m _ _ _ _ _ _ _ (n : Int) _ hm' (by omega)).mono ?_); rintro e1 w1 ⟨rfl, hb1⟩; rw [Int.toNat_natCast, HQQ.out]; have B1 := Lib.hid hb1; clear hb1))
  have K1 := Lib.hid (K0.out.next B1.out)
  have hs1 := B1.out.size
  go_loopg [7, 14] q (fun g vs vi wr => ∃ k : Nat, k ≤ q ∧ q ≤ k + g ∧ vi = .int .i64 k ∧ wr.ownsRow W.heap.size 98 4 vs (solN m S P n RR VV k).length (solV m n (solN m S P n RR VV k)) ∧ Below W.heap.size W wr)
  case atStart => exact ⟨0, Nat.zero_le _, by omega, rfl, own_nextK O0.out B1.out, B1.out⟩
  case round =>
    obtain ⟨k, hk, hg, rfl, hown, hb⟩ := hrel
    obtain ⟨wo, rfl⟩ : ∃ x, x = wr := ⟨_, rfl⟩
    have OW := Lib.hid hown
    have BU := Lib.hid hb
    have BW := Lib.hid (below_step B0.out hb)
    have hsz := BU.out.size
    have KW := Lib.hid (K0.out.next hb)
    clear hown hb c0 c1 c2 c3 c4
    obtain ⟨c0, c1, c2, c3, c4⟩ := cblk5 KW.out
    by_cases hlt : k < q
    · go_upto_region 6 with (go_at_call 85; ((with_reducible refine (vector_any m n k _ _ _ _ _ _ _ _ hm hn (by omega)).mono ?_); rintro e2 w2 ⟨rfl, hb2⟩; rw [aA_lit]; have B2' := Lib.hid hb2; clear hb2))
      have s2' := B2'.out.size
      obtain ⟨V, hVV⟩ : ∃ V, w2.alloc (.cells #[.int .i64 (vF m n k n 0 : Nat), .int .i64 (vF m n k n 1 : Nat), .int .i64 (vF m n k n 2 : Nat), .int .i64 (vF m n k n 3 : Nat)] 98) = V := ⟨_, rfl⟩
      have kv : Blk V w2.heap.size 98 (aA (vF m n k n)) := by subst hVV; rw [aA_lit]; exact Blk.new w2 _ _
      have bv : Below w2.heap.size w2 V := by subst hVV; exact (Below.refl _ _).alloc (Nat.le_refl _) _
      rw [hVV]
      have B2 := Lib.hid (below_step B2'.out bv)
      have s2 := B2.out.size
      have KV := Lib.hid kv
      have OW2 := Lib.hid (own_nextK OW.out B2.out)
      have K2 := Lib.hid (KW.out.next B2.out)
      have BU2 := Lib.hid (below_step BU.out B2.out)
      have FV := Lib.hid (show Ints V V.heap.size (some ⟨w2.heap.size, 0, none⟩) n (lstF (vecF m n k) n) by
        have := arr_ints kv kv.lt hn.2
        rwa [vF_lst] at this)
      clear c0 c1 c2 c3 c4 hVV kv bv
      go_wp2
      go_loopg [22] nr (fun g2 vi wr2 => ∃ y : Nat, y ≤ nr ∧ nr ≤ y + g2 ∧ vi = .int .i64 y ∧ (∀ j, j < y → ((dotN m S P (tabOf (RR[j]?.getD [])) (vecF m n k) n : Nat) : Int) = VV[j]?.getD 0) ∧ Below V.heap.size V wr2)
      case atStart => exact ⟨0, Nat.zero_le _, by omega, rfl, fun j hj => absurd hj (by omega), Below.refl _ _⟩
      case round =>
        obtain ⟨y, hy, hg2, rfl, hall, hb⟩ := hrel
        have HALL := Lib.hid hall
        have BX := Lib.hid hb
        have KX := Lib.hid (K2.out.next hb)
        have BXU := Lib.hid (below_step BU2.out hb)
        have BXW := Lib.hid (below_step B0.out BXU.out)
        have B2X := Lib.hid (below_step B2.out hb)
        have RX := Lib.hid (R0.out.next BXU.out)
        have OX := Lib.hid (own_nextK OW2.out hb)
        have KVX := Lib.hid (KV.out.next hb)
        have FX := Lib.hid (FV.out.next hb)
        have VX := Lib.hid (V0.out.next BXU.out)
        clear hall hb
        obtain ⟨c0, c1, c2, c3, c4⟩ := cblk5 KX.out
        by_cases hlt2 : y < nr
        · obtain ⟨Z, hZ⟩ : ∃ Z, RR[y]? = some Z := ⟨_, List.getElem?_eq_getElem (by rw [HNR.out]; exact hlt2)⟩
          obtain ⟨g', off, Bz, cz, rfl, h2, hc, h4, h5, h6⟩ := HRR.out y Z hZ
          have hck := (BXW.out.cell (p := ⟨g', off + y, none⟩) h2).trans hc
          obtain ⟨hzl, hzm, hzz⟩ := HRO.out y Z hZ
          rw [hzl] at hck h6
          have IZ := Lib.hid (show Ints wr wr.heap.size Bz n (lstF (tabOf Z) n) by rw [hzz]; exact (h6.below BXW.out (Nat.le_refl _)).more BXW.out.size)
          obtain ⟨b', off', rfl, hbb, hcv⟩ := ints_cell VX.out hlt2
          obtain ⟨x, hx⟩ : ∃ x, VV[y]?.getD 0 = x := ⟨_, rfl⟩
          rw [hx] at hcv
          obtain ⟨d, hd⟩ : ∃ d, dotN m S P (tabOf Z) (vecF m n k) n = d := ⟨_, rfl⟩
          have LD := Lib.hid (show ∀ u : Ext wr, Calls Try.prog 48 #[.agg #[.int .i64 m, .int .i64 e, .slice (some ⟨b1, o1, none⟩) la ca, .slice (some ⟨b2, o2, none⟩) lb cb], .slice Bz n cz, .slice (some ⟨w2.heap.size, 0, none⟩) n 4] (ext wr u) fun e' w' => e' = .returned (.int .i64 (d : Nat)) ∧ Below (ext wr u).heap.size (ext wr u) w' from fun u => by
            have := dot_any (tabOf Z) (vecF m n k) Bz (some ⟨w2.heap.size, 0, none⟩) n cz 4 m e b1 o1 la ca b2 o2 lb cb S P (ext wr u) (RX.out.ext _) (IZ.out.next (ext_below _ _)) (FX.out.next (ext_below _ _)) (by omega) hzm (fun i _ => vec_lt hm n k i)
            rwa [hd] at this)
          have HXV := Lib.hid hx
          have HD := Lib.hid hd
          have HZ := Lib.hid hZ
          clear hc hZ h6 hzl hzm hzz hx hd h4 h5
          by_cases hdx : (d : Int) = x
          · have t1 : ((d : Int) != x) = false := by rw [hdx]; simp
            have t2 : ((d : Int) == x) = true := by rw [hdx]; simp
            have NX := Lib.hid (show ∀ j, j < y + 1 → ((dotN m S P (tabOf (RR[j]?.getD [])) (vecF m n k) n : Nat) : Int) = VV[j]?.getD 0 from fun j hj => by
              rcases Nat.lt_or_ge j y with h | h
              · exact HALL.out j h
              · obtain rfl : j = y := by omega
                rw [spc_one HZ.out, HD.out, HXV.out]
                exact hdx)
            have hdx' := Lib.hid hdx
            clear hdx
            go_wp2_with (fail)
            refine wp_region_ext (by kernel_rfl) (by kernel_rfl) ?_
            repeat (go_big_quiet_step (first
              | (go_at_call 48; with_reducible refine calls_ext (LD.out _))))
            refine wpQuiet_nil ?_
            intro w3 hb3
            have B3 := Lib.hid (below_step BX.out hb3)
            clear hb3
            go_wp2
            go_roundg (nr - (y + 1))
            case measure => omega
            case rel => exact ⟨y + 1, by omega, by omega, by go_num, NX.out, B3.out⟩
          · have t1 : ((d : Int) != x) = true := by rw [bne_iff_ne]; exact hdx
            have t2 : ((d : Int) == x) = false := by rw [beq_eq_false_iff_ne]; exact hdx
            have HNO := Lib.hid (solN_no (ok_no (P := P) (S := S) (m := m) (n := n) HZ.out (VV := VV) (k := k) (by rw [HD.out, HXV.out]; exact hdx)))
            go_wp2_with (fail)
            refine wp_region_ext (by kernel_rfl) (by kernel_rfl) ?_
            repeat (go_big_quiet_step (first
              | (go_at_call 48; with_reducible refine calls_ext (LD.out _))))
            refine wpQuiet_nil ?_
            intro w3 hb3
            have B3 := Lib.hid (below_step BXU.out hb3)
            have O3 := Lib.hid (own_nextK OX.out hb3)
            clear hb3
            go_wp2
            go_roundg (q - (k + 1))
            case measure => omega
            case rel => exact ⟨k + 1, by omega, by omega, by go_num, by rw [HNO.out]; exact O3.out, B3.out⟩
        · have hyn : y = nr := by omega
          subst hyn
          have HYES := Lib.hid (solN_yes (m := m) (S := S) (P := P) (n := n) (RR := RR) (VV := VV) (q := k) (decide_eq_true fun i hi => HALL.out i (by rw [← HNR.out]; exact hi)))
          have hzl : (solN m S P n RR VV k).length ≤ 300 := Nat.le_trans solN_len (by omega)
          have hsx := BXU.out.size
          have d0 := KVX.out.cell 0
          have d1 := KVX.out.cell 1
          have d2 := KVX.out.cell 2
          have d3 := KVX.out.cell 3
          rw [aA_get (by omega)] at d0 d1 d2 d3
          have HNW := Lib.hid (show ∀ (j : Nat) (u : Value), (aA (vF m n k n)).toList[j]? = some u → (wr.alloc (.cells #[.int .i64 (vF m n k n 0 : Nat), .int .i64 (vF m n k n 1 : Nat), .int .i64 (vF m n k n 2 : Nat), .int .i64 (vF m n k n 3 : Nat)] 98)).cell? ((⟨wr.heap.size, 0, none⟩ : Addr).add j) = some u from fun j u hu => by
            rw [show (⟨wr.heap.size, 0, none⟩ : Addr).add j = ⟨wr.heap.size, j, none⟩ by have := addr_add wr.heap.size 0 j; rwa [Nat.zero_add] at this, (Blk.new wr _ _).cell, ← aA_lit, ← Array.getElem?_toList]
            exact hu)
          have HOC := Lib.hid (show ∀ u ∈ (aA (vF m n k n)).toList, u.oneCell' = true from fun u hu => by
            have := aA_one (f := vF m n k n)
            rw [Array.all_eq_true_iff_forall_mem] at this
            exact this u (Array.mem_toList_iff.1 hu))
          have HLN := Lib.hid (show (aA (vF m n k n)).toList.length = 1 * 4 by rw [Array.length_toList, aA_size])
          obtain ⟨NW, hNW⟩ : ∃ x, (aA (vF m n k n)).toList = x := ⟨_, rfl⟩
          rw [hNW] at HNW HOC HLN
          have HNWe := Lib.hid hNW
          clear hNW
          go_wp2_with (at_builtin; refine wpList_append_own_at _ rfl _ _ 68 rfl W.heap.size 98 i0 (.agg #[.int .i64 0, .int .i64 0, .int .i64 0, .int .i64 0]) 4 32 Try.underlying68 hi hz0 hz1 hz2 rfl (by decide) _ _ _ rfl (OX.out.alloc _) ⟨wr.heap.size, 0, none⟩ 1 1 NW rfl HLN.out HNW.out HOC.out (by unfold maxLen; omega) (by omega) (by simp; omega) ?_; intro v6 w6 hown6 hg6 _ _; have HO6 := Lib.hid hown6; have B6 := Lib.hid ((BXU.out.alloc BXU.out.size _).grown hg6 (Nat.le_trans BXU.out.size (by simp)) (fun k hk => (OX.out.lt k hk).1)); clear hown6 hg6)
          go_roundg (q - (k + 1))
          case measure => omega
          case rel =>
            refine ⟨k + 1, by omega, by omega, by go_num, ?_, B6.out⟩
            rw [HYES.out, solV_snoc, List.length_append, HNWe.out]
            exact HO6.out
    · have hkq : k = q := by omega
      subst hkq
      go_wp2
      try rw [Exit.noGoto_ret]
      go_ret
      exact ⟨_, rfl, own_base OW.out (by omega), BW.out⟩

end Go.Proofs.Ytahdkdpliphcnaa



/- Codes: the program's lists of vectors. -/
namespace Go.Proofs.Ytahdkdpliphcnaa
open Go.RowKit Go.Shelf
set_option maxRecDepth 100000

theorem solV_get {m n : Nat} : ∀ {L : List Nat} {i k j : Nat}, L[i]? = some k → j < 4 → (solV m n L)[i * 4 + j]? = (aA (vF m n k n)).toList[j]?
  | [], i, k, j, h, _ => by simp at h
  | x :: L, 0, k, j, h, hj => by
    simp at h
    subst h
    show ((aA (vF m n x n)).toList ++ solV m n L)[0 * 4 + j]? = _
    rw [Nat.zero_mul, Nat.zero_add, List.getElem?_append_left (by rw [Array.length_toList, aA_size]; exact hj)]
  | x :: L, i + 1, k, j, h, hj => by
    have h' : L[i]? = some k := by simpa using h
    show ((aA (vF m n x n)).toList ++ solV m n L)[(i + 1) * 4 + j]? = _
    rw [List.getElem?_append_right (by rw [Array.length_toList, aA_size]; omega), Array.length_toList, aA_size, show (i + 1) * 4 + j - 4 = i * 4 + j by omega]
    exact solV_get h' hj
theorem solV_read {w : World} {D m n : Nat} {v : Value} {L : List Nat} (h : w.ownsRow D 98 4 v L.length (solV m n L)) : ∃ A cap, v = .slice A L.length cap ∧ ∀ (i k : Nat), L[i]? = some k → ∃ g, A = some ⟨g, 0, none⟩ ∧ g < w.heap.size ∧ w.rangeAt g (i * 4) (aA (vF m n k n)).toList := by
  rcases h.2 with ⟨e, h0⟩ | ⟨g, cap, cur, e, hg, hblk, hc, _, hs, ht⟩
  · refine ⟨none, 0, by rw [e, h0], fun i k hi => ?_⟩
    have := (List.getElem?_eq_some_iff.1 hi).1
    omega
  · have hb : Blk w g 98 cur := hblk
    refine ⟨_, cap, e, fun i k hi => ⟨g, rfl, hb.lt, fun j u hu => ?_⟩⟩
    have hj : j < 4 := by have := (List.getElem?_eq_some_iff.1 hu).1; rwa [Array.length_toList, aA_size] at this
    have hil : i < L.length := (List.getElem?_eq_some_iff.1 hi).1
    have h1 := solV_get (m := m) (n := n) hi hj
    rw [← ht, List.getElem?_take, if_pos (by omega), hu] at h1
    rw [hb.cell, ← Array.getElem?_toList, h1]
theorem rangeAt_below {w w' : World} {B g o : Nat} {cs : List Value} (h : w.rangeAt g o cs) (hb : Below B w w') (hg : g < B) : w'.rangeAt g o cs := fun j u hu => (hb.cell (p := ⟨g, o + j, none⟩) hg).trans (h j u hu)

set_option maxHeartbeats 8000000 in
theorem lists_any (m n : Nat) (o : Int) (A B : Option Addr) (la ca lb cb : Nat) (L : List Nat) (v : Value) (D : Nat) (w : World) (hn : 1 ≤ n ∧ n ≤ 4) (hv : w.ownsRow D 98 4 v L.length (solV m n L)) (hL : L.length ≤ 300) :
    Calls Try.prog 51 #[.agg (spV m o A B la ca lb cb n), v] w fun e' w' => ∃ v', e' = .returned v' ∧ LLq w.heap.size w' v' (L.map fun k => lstF (vecF m n k) n) ∧ Below w.heap.size w w' := by
  obtain ⟨i0, hi, hz0, hz1, hz2⟩ := info_parts sl_info
  have hi4 : (Try.prog.info? 98).map (·.size) = some 4 := by kernel_rfl
  obtain ⟨Av, cv, rfl, hrd⟩ := solV_read hv
  obtain ⟨nl, hnl⟩ : ∃ x, L.length = x := ⟨_, rfl⟩
  rw [hnl] at hL ⊢
  have HNL := Lib.hid hnl
  have HRD := Lib.hid hrd
  have HI4 := Lib.hid hi4
  have hnA : (n : Int) ≤ 4 := by omega
  have hnB : (0 : Int) ≤ (n : Int) := by omega
  have hnC : ((n : Int)).toNat = n := Int.toNat_natCast n
  obtain ⟨W, hW⟩ : ∃ W, w.alloc (.cells (spV m o A B la ca lb cb n) 59) = W := ⟨_, rfl⟩
  have k0 : Blk W w.heap.size 59 (spV m o A B la ca lb cb n) := by subst hW; exact Blk.new w _ _
  have b0 : Below w.heap.size w W := by subst hW; exact (Below.refl _ _).alloc (Nat.le_refl _) _
  have sW : W.heap.size = w.heap.size + 1 := by subst hW; simp
  have B0 := Lib.hid b0
  have HW := Lib.hid hW
  have K0 := Lib.hid k0
  obtain ⟨c0, c1, c2, c3, c4⟩ := cblk5 k0
  clear hv hrd hnl b0 hW k0 hi4
  go_enter Try.func51, Try.ntmps51
  go_wp2_with (fail)
  rw [HW.out]
  go_wp2
  go_loopg [5, 10] nl (fun g vs vi wr => ∃ y : Nat, y ≤ nl ∧ nl ≤ y + g ∧ vi = .int .i64 y ∧ LLq W.heap.size wr vs ((L.take y).map fun k => lstF (vecF m n k) n) ∧ Below W.heap.size W wr)
  case atStart => exact ⟨0, Nat.zero_le _, by omega, rfl, by rw [List.take_zero]; exact LLq.nil, Below.refl _ _⟩
  case round =>
    obtain ⟨y, hy, hg, rfl, hown, hb⟩ := hrel
    have OW := Lib.hid hown
    have BU := Lib.hid hb
    have BW := Lib.hid (below_step B0.out hb)
    have hsz := BU.out.size
    have KW := Lib.hid (K0.out.next hb)
    clear hown hb c0 c1 c2 c3 c4
    by_cases hlt : y < nl
    · obtain ⟨k, hk⟩ : ∃ k, L[y]? = some k := ⟨_, List.getElem?_eq_getElem (by rw [HNL.out]; exact hlt)⟩
      obtain ⟨g, rfl, hgl, hrng⟩ := HRD.out y k hk
      have hrange := rangeAt_below hrng BW.out hgl
      have htk : (L.take (y + 1)).map (fun k => lstF (vecF m n k) n) = (L.take y).map (fun k => lstF (vecF m n k) n) ++ [lstF (vecF m n k) n] := by
        have hyl : y < L.length := by rw [HNL.out]; exact hlt
        rw [List.getElem?_eq_getElem hyl] at hk
        rw [List.take_succ_eq_append_getElem hyl]
        simp at hk
        simp [hk]
      have HTK := Lib.hid htk
      obtain ⟨c0, c1, c2, c3, c4⟩ := cblk5 KW.out
      clear hk hrng htk
      go_upto_region 5 with (refine wpList_load_mid rfl 98 (.tmp 12) rfl g (y * 4) rfl (aA (vF m n k n)).toList _ hrange Try.underlying98 rfl (by rw [Array.length_toList, aA_size]; exact HI4.out) ?_; rw [Array.toArray_toList, aA_lit])
      obtain ⟨V, hVV⟩ : ∃ V, wr.alloc (.cells #[.int .i64 (vF m n k n 0 : Nat), .int .i64 (vF m n k n 1 : Nat), .int .i64 (vF m n k n 2 : Nat), .int .i64 (vF m n k n 3 : Nat)] 98) = V := ⟨_, rfl⟩
      have kv : Blk V wr.heap.size 98 (aA (vF m n k n)) := by subst hVV; rw [aA_lit]; exact Blk.new wr _ _
      have bv : Below wr.heap.size wr V := by subst hVV; exact (Below.refl _ _).alloc (Nat.le_refl _) _
      rw [hVV]
      have BV := Lib.hid (below_step BU.out bv)
      have sV := bv.size
      have KV := Lib.hid kv
      have IV := Lib.hid (arr_ints kv kv.lt hn.2)
      have K2 := Lib.hid (KW.out.next bv)
      obtain ⟨xs, hx1, hx2, hx3⟩ := OW.out
      have HX1 := Lib.hid (own_nextK hx1 bv)
      have HX2 := Lib.hid (hx2.next bv)
      have HX3 := Lib.hid hx3
      have HX4 := Lib.hid hx2.old
      have HX0 := Lib.hid hx1
      have hzl : ((L.take y).map fun k => lstF (vecF m n k) n).length ≤ 300 := by rw [List.length_map, List.length_take]; omega
      clear c0 c1 c2 c3 c4 hVV kv hx1 hx2 hx3 hrange bv
      obtain ⟨c0, c1, c2, c3, c4⟩ := cblk5 K2.out
      have HLZ := Lib.hid (show (lstF (vF m n k n) n).length = n from lstF_len)
      have hszV := BV.out.size
      go_wp2_with (first
        | (go_at_call 84; ((with_reducible refine (cloneP_any (some ⟨wr.heap.size, 0, none⟩) n 4 V.heap.size (lstF (vF m n k n) n) V IV.out (Nat.le_refl _) (by omega)).mono ?_); rintro e4 w4 ⟨v4, rfl, ho4, hb4⟩; obtain ⟨A4, l4, q4, rfl, o4, n4, n5⟩ := SliceOut.of_row (Z := lstF (vF m n k n) n) (n := n) ho4 HLZ.out (by omega); have O4 := Lib.hid o4; have XO := Lib.hid (own_nextK HX1.out hb4); have LX := Lib.hid (HX2.out.next hb4); have B4 := Lib.hid (below_step BV.out hb4); have s4 := hb4.size; clear hb4 ho4 o4))
        | (at_builtin; refine wpList_append_own_at _ rfl _ _ 35 rfl W.heap.size 22 i0 (.slice none 0 0) 1 24 Try.underlying35 hi hz0 hz1 hz2 rfl (by decide) _ _ _ rfl (XO.out.alloc _) ⟨w4.heap.size, 0, none⟩ 1 1 [.slice A4 l4 q4] rfl rfl (by intro i u hi; match i, hi with | 0, hi => simp at hi; subst hi; simp [Addr.add]) (by intro u hu; simp at hu; subst hu; rfl) (by unfold maxLen; omega) (by omega) (by simp; omega) ?_; intro v6 w6 hown6 hg6 _ hloc6; have HO6 := Lib.hid hown6; have HG6 := Lib.hid hg6; have HL6 := Lib.hid hloc6; have B6 := Lib.hid ((B4.out.alloc B4.out.size (.cells #[.slice A4 l4 q4] 22)).grown hg6 (Nat.le_trans B4.out.size (by simp)) (fun k hk => (XO.out.lt k hk).1)); clear hown6 hg6 hloc6))
      go_roundg (nl - (y + 1))
      case measure => omega
      case rel =>
        refine ⟨y + 1, by omega, by omega, by go_num, ?_, B6.out⟩
        rw [HTK.out, ← vF_lst]
        refine ⟨xs ++ [.slice A4 l4 q4], by simpa using HO6.out, LLs.more LX.out (O4.out.down (by omega)) n4 n5 (fun g off hl e e' => ?_) HG6.out HL6.out, LLp.more HX3.out HX4.out (fun g off hl e => ?_)⟩
        · obtain ⟨g2, off2, e2, hge, _⟩ := O4.out.2 hl
          rw [e] at e2
          simp only [Option.some.injEq, Addr.mk.injEq, and_true] at e2
          have := (HX1.out.lt g e').2
          omega
        · obtain ⟨g2, off2, e2, hge, _⟩ := O4.out.2 hl
          rw [e] at e2
          simp only [Option.some.injEq, Addr.mk.injEq, and_true] at e2
          omega
    · have hym : y = nl := by omega
      subst hym
      go_wp2
      go_ret
      refine ⟨_, rfl, ?_, BW.out⟩
      have := OW.out
      rw [List.take_of_length_le (by rw [HNL.out]; exact Nat.le_refl _)] at this
      exact this.down (by omega)

end Go.Proofs.Ytahdkdpliphcnaa

