
/- The laws' helpers: copies of lists and rings. -/
import Derived.Test.YtpdonhoeimenjaaB2
namespace Go.Proofs.Ytpdonhoeimenjaa
open Go.RowKit

def Blk (w : World) (g : Nat) (t : TypeId) (cs : Array Value) : Prop := w.heap[g]? = some (.cells cs t (0, 0))
section
variable {w w' : World} {g : Nat} {t : TypeId} {cs : Array Value}
theorem Blk.lt (h : Blk w g t cs) : g < w.heap.size := by
  rcases Nat.lt_or_ge g w.heap.size with hlt | hge
  · exact hlt
  · unfold Blk at h; rw [Array.getElem?_eq_none hge] at h; cases h
theorem Blk.cell (h : Blk w g t cs) (i : Nat) : w.cell? ⟨g, i, none⟩ = cs[i]? := cell_of_row w g i cs t (0, 0) h
theorem Blk.frozen (h : Blk w g t cs) (i : Nat) : w.frozen? ⟨g, i, none⟩ = false := by
  unfold Blk at h
  simp [World.frozen?, h]
theorem Blk.new (w : World) (t : TypeId) (cs : Array Value) : Blk (w.alloc (.cells cs t)) w.heap.size t cs := heap_alloc_new w _
theorem Blk.drewN (h : Blk w g t cs) (n : Nat) : Blk (w.drewN n) g t cs := h
theorem Blk.alloc (h : Blk w g t cs) (o : Obj) : Blk (w.alloc o) g t cs := (Below.heap_alloc w o g h.lt).trans h
theorem Blk.set_ (h : Blk w g t cs) (i : Nat) (u : Value) : Blk (w.setCell ⟨g, i, none⟩ u) g t (cs.setIfInBounds i u) := by
  unfold Blk at h ⊢
  simp [World.setCell, Array.getElem?_modify, h]
theorem Blk.far (h : Blk w g t cs) {p : Addr} (hp : g ≠ p.block) (u : Value) : Blk (w.setCell p u) g t cs := (Below.heap_setCell w p u g hp).trans h
theorem Blk.below {B : Nat} (h : Blk w g t cs) (hb : Below B w w') (hg : g < B) : Blk w' g t cs := (hb.block g hg).trans h
end

/-- What is below is as it was: as 'grownBy' says it, of the blocks that were there. -/
theorem Below.grown_ {w w' : World} (h : Below w.heap.size w w') : w.grownBy w' none := ⟨h.os, h.tape, h.output, h.size, fun i hi _ => h.block i hi⟩

theorem own_base {w : World} {base base' : Nat} {e : TypeId} {size n : Nat} {v : Value} {xs : List Value} (h : w.ownsRow base e size v n xs) (hb : base' ≤ base) : w.ownsRow base' e size v n xs := by
  obtain ⟨h1, h2⟩ := h
  refine ⟨h1, ?_⟩
  rcases h2 with h2 | ⟨g, cap, cur, hv, hg, r⟩
  · exact Or.inl h2
  · exact Or.inr ⟨g, cap, cur, hv, Nat.le_trans hb hg, r⟩

theorem int_info : (Try.prog.info? 3).map (fun i => (i.zero, i.size, i.bytes)) = some (some (.int .i64 0), 1, 8) := by kernel_rfl

/-- A list that is filled from its head. -/
def fillL (xs : List Int) (len k : Nat) : List Value := (List.range len).map fun j => .int .i64 (if j < k then xs[j]?.getD 0 else 0)
theorem fillL_length {xs : List Int} {len k : Nat} : (fillL xs len k).length = len := by simp [fillL]
theorem fillL_get {xs : List Int} {len k j : Nat} (hj : j < len) : (fillL xs len k)[j]? = some (.int .i64 (if j < k then xs[j]?.getD 0 else 0)) := by
  unfold fillL
  rw [List.getElem?_map, List.getElem?_range hj]; rfl
theorem fillL_set {xs : List Int} {len k : Nat} (hk : k < len) : (fillL xs len k).set k (.int .i64 (xs[k]?.getD 0)) = fillL xs len (k + 1) := by
  apply List.ext_getElem?
  intro j
  by_cases hj : j < len
  · rw [List.getElem?_set, fillL_get hj, fillL_get hj, fillL_length]
    by_cases e : k = j
    · subst e
      simp [hk]
    · rw [if_neg e]
      have : (j < k) = (j < k + 1) := propext ⟨fun h => by omega, fun h => by omega⟩
      simp only [this]
  · rw [List.getElem?_eq_none (by rw [List.length_set, fillL_length]; omega), List.getElem?_eq_none (by rw [fillL_length]; omega)]
theorem fillL_zero {xs : List Int} {len : Nat} : (madeCells (Value.int .i64 0).cells (len * 1)).toList = fillL xs len 0 := by
  apply List.ext_getElem?
  intro j
  by_cases hj : j < len
  · rw [fillL_get hj]
    simp [madeCells, Value.cells, hj, Nat.mod_one]
  · rw [List.getElem?_eq_none (by simp [madeCells]; omega), List.getElem?_eq_none (by rw [fillL_length]; omega)]
theorem fillL_full {xs : List Int} {len : Nat} (h : xs.length = len) : fillL xs len len = xs.map (.int .i64) := by
  apply List.ext_getElem?
  intro j
  by_cases hj : j < len
  · rw [fillL_get hj, if_pos hj, List.getElem?_map, List.getElem?_eq_getElem (by omega)]; rfl
  · rw [List.getElem?_eq_none (by rw [fillL_length]; omega), List.getElem?_eq_none (by simp; omega)]

/-- What a row owns reads as a list of ints. -/
theorem ints_of_own {w : World} {base g cap n : Nat} {xs : List Int} {T : TypeId} (h : w.ownsRow base T 1 (.slice (some ⟨g, 0, none⟩) n cap) n (xs.map (.int .i64))) (hn : xs.length = n) : Ints w w.heap.size (some ⟨g, 0, none⟩) n xs := by
  refine ⟨hn, fun h0 => ⟨g, 0, rfl, (h.lt g rfl).2, fun k x hx => ?_⟩⟩
  have hk : k < n := by
    rcases Nat.lt_or_ge k n with h1 | h1
    · exact h1
    · rw [List.getElem?_eq_none (by omega)] at hx; cases hx
  rw [Nat.zero_add, h.cellAt k (by omega), List.getElem?_map, hx]; rfl

set_option maxHeartbeats 1000000 in
theorem toIntS_any (A : Option Addr) (len cap : Nat) (xs : List Int) (w : World) (hx : Ints w w.heap.size A len xs) (hl : len ≤ 1048576) :
    Calls Try.prog 135 #[.slice A len cap] w fun e w' => e = .returned (.slice (some ⟨w.heap.size, 0, none⟩) len len) ∧ w'.ownsRow w.heap.size 3 1 (.slice (some ⟨w.heap.size, 0, none⟩) len len) len (xs.map (.int .i64)) ∧ Below w.heap.size w w' := by
  obtain ⟨i0, hi, hz0, hz1, hz2⟩ := info_parts int_info
  have HX := Lib.hid hx
  clear hx
  go_enter Try.func135, Try.ntmps135
  go_wp2_with (at_make; refine wpList_make_full _ rfl (.tmp 6) (.tmp 6) 23 rfl w.heap.size 3 i0 (.int .i64 0) 1 Try.underlying23 hi hz0 hz1 .i64 .i64 _ _ len rfl rfl rfl rfl (by rw [hz2]; omega) (by unfold maxLen; omega) (Nat.le_refl _) ?_; intro w1 hown1 hg1)
  have hb1 : Below w.heap.size w w1 := (Below.refl _ _).grown hg1 (Nat.le_refl _) (by simp)
  have HB := Lib.hid hb1
  have HO := Lib.hid hown1
  clear hb1 hg1 hown1 hz0 hz1 hz2 hi
  go_loopw [4] (fun i wr => ∃ k : Nat, k ≤ len ∧ i = .int .i64 k ∧ wr.ownsRow w.heap.size 3 1 (.slice (some ⟨w.heap.size, 0, none⟩) len len) len (fillL xs len k) ∧ Below w.heap.size w wr) (fun i _ => len - (intOf i).toNat)
  case atStart => exact ⟨0, Nat.zero_le _, rfl, by rw [← fillL_zero]; exact HO.out, HB.out⟩
  case round =>
    obtain ⟨k, hk, rfl, hown, hb⟩ := hrel
    by_cases hlt : k < len
    · obtain ⟨b, off, rfl, hbb, hc⟩ := (HX.out.below hb (Nat.le_refl _)).at_ hlt
      have hce := hown.cellAt k (by omega)
      rw [fillL_get hlt] at hce
      have hfr := hown.frozenAt k
      have OW := Lib.hid hown
      have BB := Lib.hid hb
      clear hown hb
      go_wp2
      go_roundw
      case rel => exact ⟨k + 1, by omega, by go_num, by rw [← fillL_set hlt]; exact (OW.out.stored k _).1, BB.out.setCell (Nat.le_refl _) _⟩
      case measure => simp [intOf]; omega
    · have OW := Lib.hid hown
      have BB := Lib.hid hb
      clear hown hb
      go_wp2
      go_ret
      refine ⟨rfl, ?_, BB.out⟩
      rw [← fillL_full HX.out.1]
      rw [show k = len by omega] at OW
      exact OW.out

set_option maxHeartbeats 2000000 in
theorem toRing_any (n o : Int) (A B : Option Addr) (la ca lb cb : Nat) (X Y : List Int) (w : World) (hX : Ints w w.heap.size A la X) (hY : Ints w w.heap.size B lb Y) (hla : la ≤ 1048576) (hlb : lb ≤ 1048576) :
    Calls Try.prog 70 #[.agg #[.int .i64 n, .int .i64 o, .slice A la ca, .slice B lb cb]] w fun e w' => ∃ g1 g2, e = .returned (.agg #[.int .i64 n, .int .i64 o, .slice (some ⟨g1, 0, none⟩) la la, .slice (some ⟨g2, 0, none⟩) lb lb]) ∧
      w'.ownsRow w.heap.size 3 1 (.slice (some ⟨g1, 0, none⟩) la la) la (X.map (.int .i64)) ∧ w'.ownsRow w.heap.size 3 1 (.slice (some ⟨g2, 0, none⟩) lb lb) lb (Y.map (.int .i64)) ∧ g1 < g2 ∧ Below w.heap.size w w' := by
  have HX := Lib.hid hX
  have HY := Lib.hid hY
  clear hX hY
  go_enter Try.func70, Try.ntmps70
  go_wp2_with (fail)
  obtain ⟨W, hW⟩ : ∃ W, ((w.alloc (.cells #[.int .i64 n, .int .i64 o, .slice A la ca, .slice B lb cb] 55)).alloc (.cells #[.int .i64 0, .int .i64 0, .slice none 0 0, .slice none 0 0] 25)).alloc (.cells #[.int .i64 n, .int .i64 o, .slice none 0 0, .slice none 0 0] 25) = W := ⟨_, rfl⟩
  have k0 : Blk W w.heap.size 55 #[.int .i64 n, .int .i64 o, .slice A la ca, .slice B lb cb] := by
    subst hW; exact ((Blk.new w _ _).alloc _).alloc _
  have k1 : Blk W (w.heap.size + 1) 25 #[.int .i64 0, .int .i64 0, .slice none 0 0, .slice none 0 0] := by
    subst hW; simpa using (Blk.new (w.alloc (.cells #[.int .i64 n, .int .i64 o, .slice A la ca, .slice B lb cb] 55)) 25 #[.int .i64 0, .int .i64 0, .slice none 0 0, .slice none 0 0]).alloc (.cells #[.int .i64 n, .int .i64 o, .slice none 0 0, .slice none 0 0] 25)
  have k2 : Blk W (w.heap.size + 2) 25 #[.int .i64 n, .int .i64 o, .slice none 0 0, .slice none 0 0] := by
    subst hW; simpa using Blk.new ((w.alloc (.cells #[.int .i64 n, .int .i64 o, .slice A la ca, .slice B lb cb] 55)).alloc (.cells #[.int .i64 0, .int .i64 0, .slice none 0 0, .slice none 0 0] 25)) 25 #[.int .i64 n, .int .i64 o, .slice none 0 0, .slice none 0 0]
  have B0 : Below w.heap.size w W := by
    subst hW; exact (((Below.refl _ _).alloc (Nat.le_refl _) _).alloc (by simp) _).alloc (by simp; omega) _
  rw [hW]
  clear hW
  have hs0 := k2.lt
  have K0 := Lib.hid k0
  have K1 := Lib.hid k1
  have K2 := Lib.hid k2
  have BB0 := Lib.hid B0
  clear k0 k1 k2 B0
  refine (toIntS_any A la ca X W (HX.out.next BB0.out) hla).mono ?_
  rintro e1 w1 ⟨rfl, own1, hb1⟩
  have c0 := (K0.out.below hb1 (by omega)).cell 3
  have c1 := (K2.out.below hb1 (by omega)).cell 2
  have f1 := (K2.out.below hb1 (by omega)).frozen 2
  simp at c0 c1
  have hs1 := hb1.size
  have O1 := Lib.hid own1
  have BB1 := Lib.hid hb1
  clear own1 hb1
  go_wp2_with (fail)
  obtain ⟨V, hV⟩ : ∃ V, w1.setCell ⟨w.heap.size + 2, 2, none⟩ (.slice (some ⟨W.heap.size, 0, none⟩) la la) = V := ⟨_, rfl⟩
  have b1 : Below W.heap.size W w1 := BB1.out
  have b2 : Below w.heap.size w V := by
    subst hV; exact (BB0.out.trans (b1.mono (by omega))).setCell (by simp) _
  have q0 : Blk V w.heap.size 55 #[.int .i64 n, .int .i64 o, .slice A la ca, .slice B lb cb] := by
    subst hV; exact (K0.out.below b1 (by omega)).far (by simp) _
  have q1 : Blk V (w.heap.size + 1) 25 #[.int .i64 0, .int .i64 0, .slice none 0 0, .slice none 0 0] := by
    subst hV; exact (K1.out.below b1 (by omega)).far (by simp) _
  have q2 : Blk V (w.heap.size + 2) 25 #[.int .i64 n, .int .i64 o, .slice (some ⟨W.heap.size, 0, none⟩) la la, .slice none 0 0] := by
    subst hV; exact (K2.out.below b1 (by omega)).set_ 2 _
  have hsV : W.heap.size < V.heap.size := by
    subst hV; simp; exact (O1.out.lt _ rfl).2
  have oV : V.ownsRow W.heap.size 3 1 (.slice (some ⟨W.heap.size, 0, none⟩) la la) la (X.map (.int .i64)) := by
    subst hV; exact ownsRow_setCell_below O1.out (by simp; omega) _
  rw [hV]
  clear hV b1 c0 c1 f1 O1
  have K0 := Lib.hid q0
  have K1 := Lib.hid q1
  have K2 := Lib.hid q2
  have O1 := Lib.hid oV
  have BB2 := Lib.hid b2
  clear q0 q1 q2 oV b2
  refine (toIntS_any B lb cb Y V (HY.out.next BB2.out) hlb).mono ?_
  rintro e2 w2 ⟨rfl, own2, hb2⟩
  have c1 := (K2.out.below hb2 (by omega)).cell
  have c10 := c1 0
  have c11 := c1 1
  have c12 := c1 2
  have c13 := c1 3
  have f1 := (K2.out.below hb2 (by omega)).frozen
  have f13 := f1 3
  have d1 := (K1.out.below hb2 (by omega)).cell
  have d10 := d1 0
  have d11 := d1 1
  have d12 := d1 2
  have d13 := d1 3
  have g1 := (K1.out.below hb2 (by omega)).frozen
  have g10 := g1 0
  have g11 := g1 1
  have g12 := g1 2
  have g13 := g1 3
  simp at c10 c11 c12 c13 d10 d11 d12 d13
  clear c1 d1 f1 g1
  have hs2 := hb2.size
  have O2 := Lib.hid own2
  have BB3 := Lib.hid hb2
  have ow1 := O1.out.kept (Go.Proofs.Ytpdonhoeimenjaa.Below.grown_ hb2) (by simp [Value.ownBlock])
  have OO1 := Lib.hid ow1
  clear own2 hb2 ow1
  go_wp2
  refine bodyPost_ret (v := .agg #[.int .i64 n, .int .i64 o, .slice (some ⟨W.heap.size, 0, none⟩) la la, .slice (some ⟨V.heap.size, 0, none⟩) lb lb]) ?_ rfl ⟨W.heap.size, V.heap.size, rfl, ?_, ?_, ?_, ?_⟩
  · have F := (((((K1.out.below BB3.out (by omega)).far (p := ⟨w.heap.size + 1 + 1, 3, none⟩) (by simp) (.slice (some ⟨V.heap.size, 0, none⟩) lb lb)).set_ 0 (.int .i64 n)).set_ 1 (.int .i64 o)).set_ 2 (.slice (some ⟨W.heap.size, 0, none⟩) la la)).set_ 3 (.slice (some ⟨V.heap.size, 0, none⟩) lb lb)
    exact results_cell_row Try.results70 _ _ (w.heap.size + 1) 25 _ (0, 0) _ rfl F Try.underlying25 rfl (by kernel_rfl)
  · exact own_base (ownsRow_setCell_below (ownsRow_setCell_below (ownsRow_setCell_below (ownsRow_setCell_below (ownsRow_setCell_below OO1.out (by simp; omega) _) (by simp; omega) _) (by simp; omega) _) (by simp; omega) _) (by simp; omega) _) (by omega)
  · exact own_base (ownsRow_setCell_below (ownsRow_setCell_below (ownsRow_setCell_below (ownsRow_setCell_below (ownsRow_setCell_below O2.out (by simp; omega) _) (by simp; omega) _) (by simp; omega) _) (by simp; omega) _) (by simp; omega) _) (by omega)
  · omega
  · exact (((((BB2.out.trans (BB3.out.mono (by omega))).setCell (by simp; omega) _).setCell (by simp) _).setCell (by simp) _).setCell (by simp) _).setCell (by simp) _

end Go.Proofs.Ytpdonhoeimenjaa
