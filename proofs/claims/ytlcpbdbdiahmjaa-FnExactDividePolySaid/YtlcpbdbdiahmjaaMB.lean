/- Texts of this seat in one: B3 C1 B4 M1 N1 B5 B6 B7 B8 C2 C3 C4 C5 F1 F2 E1 E2 Y1. -/
import Derived.Test.YtlcpbdbdiahmjaaMA
import Derived.Laws.IdiomStrings

/- The contracts of Add, Mul, Neg, Times, Power and CharacteristicOf, of both sides. -/
namespace Go.Proofs.Ytlcpbdbdiahmjaa
open Go.RowKit

end Go.Proofs.Ytlcpbdbdiahmjaa



/- The laws' helpers: copies of lists and rings. -/
namespace Go.Proofs.Ytlcpbdbdiahmjaa
open Go.RowKit

def Blk (w : World) (g : Nat) (t : TypeId) (cs : Array Value) : Prop := w.heap[g]? = some (.cells cs t (0, 0))
section
variable {w w' : World} {g : Nat} {t : TypeId} {cs : Array Value}
theorem Blk.lt (h : Blk w g t cs) : g < w.heap.size := by
  rcases Nat.lt_or_ge g w.heap.size with hlt | hge
  · exact hlt
  · unfold Blk at h; rw [Array.getElem?_eq_none hge] at h; cases h
theorem Blk.cell (h : Blk w g t cs) (i : Nat) : w.cell? ⟨g, i, none⟩ = cs[i]? := cell_of_row w g i cs t (0, 0) h
theorem Blk.frozen (h : Blk w g t cs) (i : Nat) : w.frozen? ⟨g, i, none⟩ = false := by
  unfold Blk at h
  simp [World.frozen?, h]
theorem Blk.new (w : World) (t : TypeId) (cs : Array Value) : Blk (w.alloc (.cells cs t)) w.heap.size t cs := heap_alloc_new w _
theorem Blk.drewN (h : Blk w g t cs) (n : Nat) : Blk (w.drewN n) g t cs := h
theorem Blk.alloc (h : Blk w g t cs) (o : Obj) : Blk (w.alloc o) g t cs := (Below.heap_alloc w o g h.lt).trans h
theorem Blk.set_ (h : Blk w g t cs) (i : Nat) (u : Value) : Blk (w.setCell ⟨g, i, none⟩ u) g t (cs.setIfInBounds i u) := by
  unfold Blk at h ⊢
  simp [World.setCell, Array.getElem?_modify, h]
theorem Blk.far (h : Blk w g t cs) {p : Addr} (hp : g ≠ p.block) (u : Value) : Blk (w.setCell p u) g t cs := (Below.heap_setCell w p u g hp).trans h
theorem Blk.below {B : Nat} (h : Blk w g t cs) (hb : Below B w w') (hg : g < B) : Blk w' g t cs := (hb.block g hg).trans h
end

/-- What is below is as it was: as 'grownBy' says it, of the blocks that were there. -/
theorem Below.grown_ {w w' : World} (h : Below w.heap.size w w') : w.grownBy w' none := ⟨h.os, h.tape, h.output, h.size, fun i hi _ => h.block i hi⟩

theorem own_base {w : World} {base base' : Nat} {e : TypeId} {size n : Nat} {v : Value} {xs : List Value} (h : w.ownsRow base e size v n xs) (hb : base' ≤ base) : w.ownsRow base' e size v n xs := by
  obtain ⟨h1, h2⟩ := h
  refine ⟨h1, ?_⟩
  rcases h2 with h2 | ⟨g, cap, cur, hv, hg, r⟩
  · exact Or.inl h2
  · exact Or.inr ⟨g, cap, cur, hv, Nat.le_trans hb hg, r⟩

theorem int_info : (Try.prog.info? 3).map (fun i => (i.zero, i.size, i.bytes)) = some (some (.int .i64 0), 1, 8) := by kernel_rfl

/-- A list that is filled from its head. -/
def fillL (xs : List Int) (len k : Nat) : List Value := (List.range len).map fun j => .int .i64 (if j < k then xs[j]?.getD 0 else 0)
theorem fillL_length {xs : List Int} {len k : Nat} : (fillL xs len k).length = len := by simp [fillL]
theorem fillL_get {xs : List Int} {len k j : Nat} (hj : j < len) : (fillL xs len k)[j]? = some (.int .i64 (if j < k then xs[j]?.getD 0 else 0)) := by
  unfold fillL
  rw [List.getElem?_map, List.getElem?_range hj]; rfl
theorem fillL_set {xs : List Int} {len k : Nat} (hk : k < len) : (fillL xs len k).set k (.int .i64 (xs[k]?.getD 0)) = fillL xs len (k + 1) := by
  apply List.ext_getElem?
  intro j
  by_cases hj : j < len
  · rw [List.getElem?_set, fillL_get hj, fillL_get hj, fillL_length]
    by_cases e : k = j
    · subst e
      simp [hk]
    · rw [if_neg e]
      have : (j < k) = (j < k + 1) := propext ⟨fun h => by omega, fun h => by omega⟩
      simp only [this]
  · rw [List.getElem?_eq_none (by rw [List.length_set, fillL_length]; omega), List.getElem?_eq_none (by rw [fillL_length]; omega)]
theorem fillL_zero {xs : List Int} {len : Nat} : (madeCells (Value.int .i64 0).cells (len * 1)).toList = fillL xs len 0 := by
  apply List.ext_getElem?
  intro j
  by_cases hj : j < len
  · rw [fillL_get hj]
    simp [madeCells, Value.cells, hj, Nat.mod_one]
  · rw [List.getElem?_eq_none (by simp [madeCells]; omega), List.getElem?_eq_none (by rw [fillL_length]; omega)]
theorem fillL_full {xs : List Int} {len : Nat} (h : xs.length = len) : fillL xs len len = xs.map (.int .i64) := by
  apply List.ext_getElem?
  intro j
  by_cases hj : j < len
  · rw [fillL_get hj, if_pos hj, List.getElem?_map, List.getElem?_eq_getElem (by omega)]; rfl
  · rw [List.getElem?_eq_none (by rw [fillL_length]; omega), List.getElem?_eq_none (by simp; omega)]

/-- What a row owns reads as a list of ints. -/
theorem ints_of_own {w : World} {base g cap n : Nat} {xs : List Int} {T : TypeId} (h : w.ownsRow base T 1 (.slice (some ⟨g, 0, none⟩) n cap) n (xs.map (.int .i64))) (hn : xs.length = n) : Ints w w.heap.size (some ⟨g, 0, none⟩) n xs := by
  refine ⟨hn, fun h0 => ⟨g, 0, rfl, (h.lt g rfl).2, fun k x hx => ?_⟩⟩
  have hk : k < n := by
    rcases Nat.lt_or_ge k n with h1 | h1
    · exact h1
    · rw [List.getElem?_eq_none (by omega)] at hx; cases hx
  rw [Nat.zero_add, h.cellAt k (by omega), List.getElem?_map, hx]; rfl

set_option maxHeartbeats 1000000 in
theorem toIntS_any (A : Option Addr) (len cap : Nat) (xs : List Int) (w : World) (hx : Ints w w.heap.size A len xs) (hl : len ≤ 1048576) :
    Calls Try.prog 30 #[.slice A len cap] w fun e w' => e = .returned (.slice (some ⟨w.heap.size, 0, none⟩) len len) ∧ w'.ownsRow w.heap.size 3 1 (.slice (some ⟨w.heap.size, 0, none⟩) len len) len (xs.map (.int .i64)) ∧ Below w.heap.size w w' := by
  obtain ⟨i0, hi, hz0, hz1, hz2⟩ := info_parts int_info
  have HX := Lib.hid hx
  clear hx
  go_enter Try.func30, Try.ntmps30
  go_wp2_with (at_make; refine wpList_make_full _ rfl (.tmp 6) (.tmp 6) 23 rfl w.heap.size 3 i0 (.int .i64 0) 1 Try.underlying23 hi hz0 hz1 .i64 .i64 _ _ len rfl rfl rfl rfl (by rw [hz2]; omega) (by unfold maxLen; omega) (Nat.le_refl _) ?_; intro w1 hown1 hg1)
  have hb1 : Below w.heap.size w w1 := (Below.refl _ _).grown hg1 (Nat.le_refl _) (by simp)
  have HB := Lib.hid hb1
  have HO := Lib.hid hown1
  clear hb1 hg1 hown1 hz0 hz1 hz2 hi
  go_loopw [4] (fun i wr => ∃ k : Nat, k ≤ len ∧ i = .int .i64 k ∧ wr.ownsRow w.heap.size 3 1 (.slice (some ⟨w.heap.size, 0, none⟩) len len) len (fillL xs len k) ∧ Below w.heap.size w wr) (fun i _ => len - (intOf i).toNat)
  case atStart => exact ⟨0, Nat.zero_le _, rfl, by rw [← fillL_zero]; exact HO.out, HB.out⟩
  case round =>
    obtain ⟨k, hk, rfl, hown, hb⟩ := hrel
    by_cases hlt : k < len
    · obtain ⟨b, off, rfl, hbb, hc⟩ := (HX.out.below hb (Nat.le_refl _)).at_ hlt
      have hce := hown.cellAt k (by omega)
      rw [fillL_get hlt] at hce
      have hfr := hown.frozenAt k
      have OW := Lib.hid hown
      have BB := Lib.hid hb
      clear hown hb
      go_wp2
      go_roundw
      case rel => exact ⟨k + 1, by omega, by go_num, by rw [← fillL_set hlt]; exact (OW.out.stored k _).1, BB.out.setCell (Nat.le_refl _) _⟩
      case measure => simp [intOf]; omega
    · have OW := Lib.hid hown
      have BB := Lib.hid hb
      clear hown hb
      go_wp2
      go_ret
      refine ⟨rfl, ?_, BB.out⟩
      rw [← fillL_full HX.out.1]
      rw [show k = len by omega] at OW
      exact OW.out

set_option maxHeartbeats 2000000 in
theorem toRing_any (n o : Int) (A B : Option Addr) (la ca lb cb : Nat) (X Y : List Int) (w : World) (hX : Ints w w.heap.size A la X) (hY : Ints w w.heap.size B lb Y) (hla : la ≤ 1048576) (hlb : lb ≤ 1048576) :
    Calls Try.prog 38 #[.agg #[.int .i64 n, .int .i64 o, .slice A la ca, .slice B lb cb]] w fun e w' => ∃ g1 g2, e = .returned (.agg #[.int .i64 n, .int .i64 o, .slice (some ⟨g1, 0, none⟩) la la, .slice (some ⟨g2, 0, none⟩) lb lb]) ∧
      w'.ownsRow w.heap.size 3 1 (.slice (some ⟨g1, 0, none⟩) la la) la (X.map (.int .i64)) ∧ w'.ownsRow w.heap.size 3 1 (.slice (some ⟨g2, 0, none⟩) lb lb) lb (Y.map (.int .i64)) ∧ g1 < g2 ∧ Below w.heap.size w w' := by
  have HX := Lib.hid hX
  have HY := Lib.hid hY
  clear hX hY
  go_enter Try.func38, Try.ntmps38
  go_wp2_with (fail)
  obtain ⟨W, hW⟩ : ∃ W, ((w.alloc (.cells #[.int .i64 n, .int .i64 o, .slice A la ca, .slice B lb cb] 45)).alloc (.cells #[.int .i64 0, .int .i64 0, .slice none 0 0, .slice none 0 0] 25)).alloc (.cells #[.int .i64 n, .int .i64 o, .slice none 0 0, .slice none 0 0] 25) = W := ⟨_, rfl⟩
  have k0 : Blk W w.heap.size 45 #[.int .i64 n, .int .i64 o, .slice A la ca, .slice B lb cb] := by
    subst hW; exact ((Blk.new w _ _).alloc _).alloc _
  have k1 : Blk W (w.heap.size + 1) 25 #[.int .i64 0, .int .i64 0, .slice none 0 0, .slice none 0 0] := by
    subst hW; simpa using (Blk.new (w.alloc (.cells #[.int .i64 n, .int .i64 o, .slice A la ca, .slice B lb cb] 45)) 25 #[.int .i64 0, .int .i64 0, .slice none 0 0, .slice none 0 0]).alloc (.cells #[.int .i64 n, .int .i64 o, .slice none 0 0, .slice none 0 0] 25)
  have k2 : Blk W (w.heap.size + 2) 25 #[.int .i64 n, .int .i64 o, .slice none 0 0, .slice none 0 0] := by
    subst hW; simpa using Blk.new ((w.alloc (.cells #[.int .i64 n, .int .i64 o, .slice A la ca, .slice B lb cb] 45)).alloc (.cells #[.int .i64 0, .int .i64 0, .slice none 0 0, .slice none 0 0] 25)) 25 #[.int .i64 n, .int .i64 o, .slice none 0 0, .slice none 0 0]
  have B0 : Below w.heap.size w W := by
    subst hW; exact (((Below.refl _ _).alloc (Nat.le_refl _) _).alloc (by simp) _).alloc (by simp; omega) _
  rw [hW]
  clear hW
  have hs0 := k2.lt
  have K0 := Lib.hid k0
  have K1 := Lib.hid k1
  have K2 := Lib.hid k2
  have BB0 := Lib.hid B0
  clear k0 k1 k2 B0
  refine (toIntS_any A la ca X W (HX.out.next BB0.out) hla).mono ?_
  rintro e1 w1 ⟨rfl, own1, hb1⟩
  have c0 := (K0.out.below hb1 (by omega)).cell 3
  have c1 := (K2.out.below hb1 (by omega)).cell 2
  have f1 := (K2.out.below hb1 (by omega)).frozen 2
  simp at c0 c1
  have hs1 := hb1.size
  have O1 := Lib.hid own1
  have BB1 := Lib.hid hb1
  clear own1 hb1
  go_wp2_with (fail)
  obtain ⟨V, hV⟩ : ∃ V, w1.setCell ⟨w.heap.size + 2, 2, none⟩ (.slice (some ⟨W.heap.size, 0, none⟩) la la) = V := ⟨_, rfl⟩
  have b1 : Below W.heap.size W w1 := BB1.out
  have b2 : Below w.heap.size w V := by
    subst hV; exact (BB0.out.trans (b1.mono (by omega))).setCell (by simp) _
  have q0 : Blk V w.heap.size 45 #[.int .i64 n, .int .i64 o, .slice A la ca, .slice B lb cb] := by
    subst hV; exact (K0.out.below b1 (by omega)).far (by simp) _
  have q1 : Blk V (w.heap.size + 1) 25 #[.int .i64 0, .int .i64 0, .slice none 0 0, .slice none 0 0] := by
    subst hV; exact (K1.out.below b1 (by omega)).far (by simp) _
  have q2 : Blk V (w.heap.size + 2) 25 #[.int .i64 n, .int .i64 o, .slice (some ⟨W.heap.size, 0, none⟩) la la, .slice none 0 0] := by
    subst hV; exact (K2.out.below b1 (by omega)).set_ 2 _
  have hsV : W.heap.size < V.heap.size := by
    subst hV; simp; exact (O1.out.lt _ rfl).2
  have oV : V.ownsRow W.heap.size 3 1 (.slice (some ⟨W.heap.size, 0, none⟩) la la) la (X.map (.int .i64)) := by
    subst hV; exact ownsRow_setCell_below O1.out (by simp; omega) _
  rw [hV]
  clear hV b1 c0 c1 f1 O1
  have K0 := Lib.hid q0
  have K1 := Lib.hid q1
  have K2 := Lib.hid q2
  have O1 := Lib.hid oV
  have BB2 := Lib.hid b2
  clear q0 q1 q2 oV b2
  refine (toIntS_any B lb cb Y V (HY.out.next BB2.out) hlb).mono ?_
  rintro e2 w2 ⟨rfl, own2, hb2⟩
  have c1 := (K2.out.below hb2 (by omega)).cell
  have c10 := c1 0
  have c11 := c1 1
  have c12 := c1 2
  have c13 := c1 3
  have f1 := (K2.out.below hb2 (by omega)).frozen
  have f13 := f1 3
  have d1 := (K1.out.below hb2 (by omega)).cell
  have d10 := d1 0
  have d11 := d1 1
  have d12 := d1 2
  have d13 := d1 3
  have g1 := (K1.out.below hb2 (by omega)).frozen
  have g10 := g1 0
  have g11 := g1 1
  have g12 := g1 2
  have g13 := g1 3
  simp at c10 c11 c12 c13 d10 d11 d12 d13
  clear c1 d1 f1 g1
  have hs2 := hb2.size
  have O2 := Lib.hid own2
  have BB3 := Lib.hid hb2
  have ow1 := O1.out.kept (Go.Proofs.Ytlcpbdbdiahmjaa.Below.grown_ hb2) (by simp [Value.ownBlock])
  have OO1 := Lib.hid ow1
  clear own2 hb2 ow1
  go_wp2
  refine bodyPost_ret (v := .agg #[.int .i64 n, .int .i64 o, .slice (some ⟨W.heap.size, 0, none⟩) la la, .slice (some ⟨V.heap.size, 0, none⟩) lb lb]) ?_ rfl ⟨W.heap.size, V.heap.size, rfl, ?_, ?_, ?_, ?_⟩
  · have F := (((((K1.out.below BB3.out (by omega)).far (p := ⟨w.heap.size + 1 + 1, 3, none⟩) (by simp) (.slice (some ⟨V.heap.size, 0, none⟩) lb lb)).set_ 0 (.int .i64 n)).set_ 1 (.int .i64 o)).set_ 2 (.slice (some ⟨W.heap.size, 0, none⟩) la la)).set_ 3 (.slice (some ⟨V.heap.size, 0, none⟩) lb lb)
    exact results_cell_row Try.results38 _ _ (w.heap.size + 1) 25 _ (0, 0) _ rfl F Try.underlying25 rfl (by kernel_rfl)
  · exact own_base (ownsRow_setCell_below (ownsRow_setCell_below (ownsRow_setCell_below (ownsRow_setCell_below (ownsRow_setCell_below OO1.out (by simp; omega) _) (by simp; omega) _) (by simp; omega) _) (by simp; omega) _) (by simp; omega) _) (by omega)
  · exact own_base (ownsRow_setCell_below (ownsRow_setCell_below (ownsRow_setCell_below (ownsRow_setCell_below (ownsRow_setCell_below O2.out (by simp; omega) _) (by simp; omega) _) (by simp; omega) _) (by simp; omega) _) (by simp; omega) _) (by omega)
  · omega
  · exact (((((BB2.out.trans (BB3.out.mono (by omega))).setCell (by simp; omega) _).setCell (by simp) _).setCell (by simp) _).setCell (by simp) _).setCell (by simp) _

end Go.Proofs.Ytlcpbdbdiahmjaa



/- The contracts of the reading side's Add and Mul. -/
namespace Go.Proofs.Ytlcpbdbdiahmjaa
open Go.RowKit

/-- The bound of l1Elements, of a size. -/
def hiOf (n : Int) : Int := wrap64 (n - 1)
theorem hi_valid {n o : Int} {X Y : List Int} (h : validB n o X Y = true) : hiOf n = n - 1 := by
  unfold validB at h
  rw [Bool.and_eq_true] at h
  obtain ⟨h1, h2, _⟩ := fitsB_iff.1 h.1
  exact wrap_in (by omega) (by omega)
end Go.Proofs.Ytlcpbdbdiahmjaa



/- Plain facts on tables of sums: repeated sums come back to 0 in at most as many steps as there are elements. No program in sight. -/
namespace Go.Proofs.Ytlcpbdbdiahmjaa
open Go.RowKit

section
variable {m : Nat} {S : Nat → Nat}
theorem OpLaw.zero {e a : Nat} {T : Nat → Nat} (h : OpLaw m T e) (ha : a < m) : T (a * m + e) = a := (h a ha).1
theorem OpLaw.comm {e a b : Nat} {T : Nat → Nat} (h : OpLaw m T e) (ha : a < m) (hb : b < m) : T (a * m + b) = T (b * m + a) := ((h a ha).2 b hb).1
theorem OpLaw.assoc {e a b c : Nat} {T : Nat → Nat} (h : OpLaw m T e) (ha : a < m) (hb : b < m) (hc : c < m) : T (T (a * m + b) * m + c) = T (a * m + T (b * m + c)) := ((h a ha).2 b hb).2 c hc

/-- Sums with one element differ where the others do. -/
theorem sum_inj (h : OpLaw m S 0) (hn : NegLaw m S) {a x y : Nat} (ha : a < m) (hx : x < m) (hy : y < m) (e : S (x * m + a) = S (y * m + a)) : x = y := by
  obtain ⟨c, hc, h0⟩ := rowL_mem.1 (show ((0 : Nat) : Int) ∈ rowL m S a from hn a ha)
  have e1 := h.assoc hx ha hc
  have e2 := h.assoc hy ha hc
  rw [h0, h.zero hx] at e1
  rw [h0, h.zero hy] at e2
  rw [← e1, ← e2, e]
end

end Go.Proofs.Ytlcpbdbdiahmjaa



/- Plain facts: repeated operations with one element come back; orders in a table. No program in sight. -/
namespace Go.Proofs.Ytlcpbdbdiahmjaa
open Go.RowKit

section
variable {m : Nat} {T S P : Nat → Nat} {z e a d : Nat}
/-- The place of One in a row of products, or -1. -/
def invN (m : Nat) (P : Nat → Nat) (e a : Nat) : Int := idx (rowL m P a) e
end

end Go.Proofs.Ytlcpbdbdiahmjaa



/- The contracts of sumOrder, multiple, power, and of the reading side's; of l1Neg. -/
namespace Go.Proofs.Ytlcpbdbdiahmjaa
open Go.RowKit

end Go.Proofs.Ytlcpbdbdiahmjaa



/- The contracts of multiple and power, of both sides, and of l1Neg. -/
namespace Go.Proofs.Ytlcpbdbdiahmjaa
open Go.RowKit

end Go.Proofs.Ytlcpbdbdiahmjaa



/- The contracts of Neg, Times, Power and CharacteristicOf, of both sides. -/
namespace Go.Proofs.Ytlcpbdbdiahmjaa
open Go.RowKit

set_option maxHeartbeats 1000000 in
theorem l1Neg_any (a : Nat) (m e b1 o1 la ca b2 o2 lb cb : Nat) (S P : Nat → Nat) (w : World) (hr : RingAt w m e b1 o1 la ca b2 o2 lb cb S P) (ha : a < m) :
    Calls Try.prog 53 #[.agg #[.int .i64 m, .int .i64 e, .slice (some ⟨b1, o1, none⟩) la ca, .slice (some ⟨b2, o2, none⟩) lb cb], .int .i64 a] w fun e' w' => e' = .returned (.int .i64 (negN m S a)) ∧ Below w.heap.size w w' := by
  have hm := hr.hm
  have hm' := hr.hm'
  have HR := Lib.hid hr
  clear hr
  go_enter Try.func53, Try.ntmps53
  go_wp2
  go_loopg [8] m (fun g i wr => ∃ k : Nat, k ≤ m ∧ m ≤ k + g ∧ i = .int .i64 k ∧ Misses (rowL m S a) 0 k ∧ Below (w.heap.size + 1) (w.alloc (.cells #[.int .i64 m, .int .i64 e, .slice (some ⟨b1, o1, none⟩) la ca, .slice (some ⟨b2, o2, none⟩) lb cb] 25)) wr)
  case atStart => exact ⟨0, Nat.zero_le _, by omega, rfl, fun j hj => absurd hj (by omega), Below.refl _ _⟩
  case round =>
    obtain ⟨k, hk, hg, rfl, hup, hb⟩ := hrel
    have HU := Lib.hid hup
    obtain ⟨d0, d1, d2, d3, hs1⟩ := box4 hb
    have X1 := Lib.hid hb
    have R1 := Lib.hid (HR.out.next (below_of_box hb))
    clear hup hb
    by_cases hlt : k < m
    · by_cases h0 : S (a * m + k) = 0
      · have H0 := Lib.hid h0
        have t0 : (((S (a * m + k) : Nat) : Int) == 0) = true := by rw [beq_iff_eq]; omega
        clear h0
        go_wp2_with (go_at_call 52; ((with_reducible refine (l1Add_any a k m e b1 o1 la ca b2 o2 lb cb S P _ R1.out ha hlt).mono ?_); rintro e1 w1 ⟨rfl, hb1⟩; have X2 := Lib.hid (X1.out.trans (hb1.mono (by omega))); clear hb1))
        go_ret
        refine ⟨ret_int ?_, below_of_box X2.out⟩
        unfold negN
        exact (idx_hit (by rw [rowL_length]; exact hlt) (by rw [rowL_get hlt, H0.out]; rfl) HU.out).symm
      · have H0 := Lib.hid h0
        have t0 : (((S (a * m + k) : Nat) : Int) == 0) = false := by rw [beq_eq_false_iff_ne]; omega
        clear h0
        go_wp2_with (go_at_call 52; ((with_reducible refine (l1Add_any a k m e b1 o1 la ca b2 o2 lb cb S P _ R1.out ha hlt).mono ?_); rintro e1 w1 ⟨rfl, hb1⟩; have X2 := Lib.hid (X1.out.trans (hb1.mono (by omega))); clear hb1))
        go_roundg (m - (k + 1))
        case measure => omega
        case rel => exact ⟨k + 1, by omega, by omega, by go_num, forall_succ HU.out (by rw [rowL_get hlt]; exact fun h => H0.out (by omega)), X2.out⟩
    · go_wp2
      go_ret
      refine ⟨ret_int ?_, below_of_box X1.out⟩
      unfold negN
      exact (idx_miss fun j hj => HU.out j (by rw [rowL_length] at hj; omega)).symm

end Go.Proofs.Ytlcpbdbdiahmjaa



/- Lists that are the same: the library's Equal, l1Same; SameRing of both sides. -/
namespace Go.Proofs.Ytlcpbdbdiahmjaa
open Go.RowKit

theorem Blk.next {w w' : World} {g : Nat} {t : TypeId} {cs : Array Value} (h : Blk w g t cs) (hb : Below w.heap.size w w') : Blk w' g t cs := h.below hb h.lt
theorem blk4 {w : World} {g : Nat} {t : TypeId} {a b c d : Value} (h : Blk w g t #[a, b, c, d]) : w.cell? ⟨g, 0, none⟩ = some a ∧ w.cell? ⟨g, 1, none⟩ = some b ∧ w.cell? ⟨g, 2, none⟩ = some c ∧ w.cell? ⟨g, 3, none⟩ = some d :=
  ⟨h.cell 0, h.cell 1, h.cell 2, h.cell 3⟩
theorem below_step {w w1 w2 : World} (h : Below w.heap.size w w1) (hb : Below w1.heap.size w1 w2) : Below w.heap.size w w2 := h.trans (hb.mono h.size)

attribute [local go_sem] eq_shape

end Go.Proofs.Ytlcpbdbdiahmjaa



/- The laws' helpers: sizes; two rings that read the same. -/
namespace Go.Proofs.Ytlcpbdbdiahmjaa
open Go.RowKit

def szI (l : Int) (n : Nat) : Int := if (n : Int) ≤ l then l - n else -1
theorem szI_yes {l : Int} {n : Nat} (h : (n : Int) ≤ l) : szI l n = l - n := if_pos h
theorem szI_no {l : Int} {n : Nat} (h : ¬ (n : Int) ≤ l) : szI l n = -1 := if_neg h
theorem szIntS_any (A : Option Addr) (n c : Nat) (l : Int) (w : World) (h0 : 0 ≤ l) (h1 : l ≤ 1048576) (hn : n ≤ 9223372036854775807) :
    Calls Try.prog 84 #[.slice A n c, .int .i64 l] w fun e w' => e = .returned (.int .i64 (szI l n)) ∧ w = w' := by
  by_cases h : (n : Int) ≤ l
  · rw [szI_yes h]
    go_enter Try.func84, Try.ntmps84
    go_wp2
    go_ret
    exact ⟨rfl, rfl⟩
  · rw [szI_no h]
    go_enter Try.func84, Try.ntmps84
    go_wp2
    go_ret
    exact ⟨rfl, rfl⟩

def szR (l : Int) (la lb : Nat) : Int := if (la : Int) + lb ≤ l then l - la - lb else -1
theorem szRing_any (n o : Int) (A B : Option Addr) (la ca lb cb : Nat) (l : Int) (w : World) (h0 : 0 ≤ l) (h1 : l ≤ 1048576) (hla : la ≤ 9223372036854775807) (hlb : lb ≤ 9223372036854775807) :
    Calls Try.prog 36 #[.agg #[.int .i64 n, .int .i64 o, .slice A la ca, .slice B lb cb], .int .i64 l] w fun e w' => e = .returned (.int .i64 (szR l la lb)) ∧ Below w.heap.size w w' := by
  by_cases ha : (la : Int) ≤ l
  · have e1 := Lib.hid (szI_yes ha)
    by_cases hb : (lb : Int) ≤ l - la
    · have e2 := Lib.hid (szI_yes hb)
      have e3 := Lib.hid (show szR l la lb = l - la - lb from if_pos (by omega))
      go_enter Try.func36, Try.ntmps36
      go_wp2_with (fail)
      refine (szIntS_any A la ca l _ h0 h1 hla).mono ?_
      rintro e w1 ⟨rfl, rfl⟩
      rw [e1.out]
      go_wp2_with (fail)
      refine (szIntS_any B lb cb (l - la) _ (by omega) (by omega) hlb).mono ?_
      rintro e w1 ⟨rfl, rfl⟩
      rw [e2.out]
      go_wp2
      go_ret
      exact ⟨ret_int e3.out.symm, (Below.refl _ _).alloc (Nat.le_refl _) _⟩
    · have e2 := Lib.hid (szI_no hb)
      have e3 := Lib.hid (show szR l la lb = -1 from if_neg (by omega))
      go_enter Try.func36, Try.ntmps36
      go_wp2_with (fail)
      refine (szIntS_any A la ca l _ h0 h1 hla).mono ?_
      rintro e w1 ⟨rfl, rfl⟩
      rw [e1.out]
      go_wp2_with (fail)
      refine (szIntS_any B lb cb (l - la) _ (by omega) (by omega) hlb).mono ?_
      rintro e w1 ⟨rfl, rfl⟩
      rw [e2.out]
      go_wp2
      go_ret
      exact ⟨ret_int e3.out.symm, (Below.refl _ _).alloc (Nat.le_refl _) _⟩
  · have e1 := Lib.hid (szI_no ha)
    have e3 := Lib.hid (show szR l la lb = -1 from if_neg (by omega))
    go_enter Try.func36, Try.ntmps36
    go_wp2_with (fail)
    refine (szIntS_any A la ca l _ h0 h1 hla).mono ?_
    rintro e w1 ⟨rfl, rfl⟩
    rw [e1.out]
    go_wp2
    go_ret
    exact ⟨ret_int e3.out.symm, (Below.refl _ _).alloc (Nat.le_refl _) _⟩

set_option maxHeartbeats 1000000 in
theorem eqIntS_same (A B : Option Addr) (n ca cb : Nat) (xs : List Int) (w : World) (C D : Nat) (hA : Ints w C A n xs) (hB : Ints w D B n xs) (hn : n ≤ 9223372036854775807) :
    Calls Try.prog 31 #[.slice A n ca, .slice B n cb] w fun e w' => e = .returned (.bool true) ∧ Below w.heap.size w w' := by
  have HA := Lib.hid hA
  have HB := Lib.hid hB
  clear hA hB
  go_enter Try.func31, Try.ntmps31
  go_wp2
  go_loopw [5] (fun i wr => ∃ k : Nat, k ≤ n ∧ i = .int .i64 k ∧ ∃ d : Nat, wr = w.drewN d) (fun i _ => n - (intOf i).toNat)
  case atStart => exact ⟨0, Nat.zero_le _, rfl, 0, rfl⟩
  case round =>
    obtain ⟨k, hk, rfl, d, rfl⟩ := hrel
    by_cases hlt : k < n
    · obtain ⟨b1, o1, rfl, _, hc1⟩ := HA.out.at_ hlt
      obtain ⟨b2, o2, rfl, _, hc2⟩ := HB.out.at_ hlt
      go_wp2
      go_quiet (fail)
      go_wp2
      go_roundw
      case rel => exact ⟨k + 1, by omega, by go_num, _, rfl⟩
      case measure => simp [intOf]; omega
    · go_wp2
      go_ret
      exact ⟨rfl, below_drewN (Below.refl _ _) _⟩

set_option maxHeartbeats 1000000 in
theorem eqRing_same (n o : Int) (A B A' B' : Option Addr) (la ca lb cb ca' cb' : Nat) (X Y : List Int) (w : World) (hA : Ints w w.heap.size A la X) (hB : Ints w w.heap.size B lb Y) (hA' : Ints w w.heap.size A' la X) (hB' : Ints w w.heap.size B' lb Y)
    (hla : la ≤ 9223372036854775807) (hlb : lb ≤ 9223372036854775807) :
    Calls Try.prog 40 #[.agg #[.int .i64 n, .int .i64 o, .slice A la ca, .slice B lb cb], .agg #[.int .i64 n, .int .i64 o, .slice A' la ca', .slice B' lb cb']] w fun e w' => e = .returned (.bool true) ∧ Below w.heap.size w w' := by
  have HB0 : Below w.heap.size w ((w.alloc (.cells #[.int .i64 n, .int .i64 o, .slice A la ca, .slice B lb cb] 25)).alloc (.cells #[.int .i64 n, .int .i64 o, .slice A' la ca', .slice B' lb cb'] 25)) := ((Below.refl _ _).alloc (Nat.le_refl _) _).alloc (by simp) _
  have H1 := Lib.hid (hA.next HB0)
  have H2 := Lib.hid (hB.next HB0)
  have H3 := Lib.hid (hA'.next HB0)
  have H4 := Lib.hid (hB'.next HB0)
  clear hA hB hA' hB' HB0
  go_enter Try.func40, Try.ntmps40
  go_wp2_with (fail)
  obtain ⟨W, hW⟩ : ∃ W, (w.alloc (.cells #[.int .i64 n, .int .i64 o, .slice A la ca, .slice B lb cb] 25)).alloc (.cells #[.int .i64 n, .int .i64 o, .slice A' la ca', .slice B' lb cb'] 25) = W := ⟨_, rfl⟩
  have k0 : Blk W w.heap.size 25 #[.int .i64 n, .int .i64 o, .slice A la ca, .slice B lb cb] := by
    subst hW; exact (Blk.new w _ _).alloc _
  have k1 : Blk W (w.heap.size + 1) 25 #[.int .i64 n, .int .i64 o, .slice A' la ca', .slice B' lb cb'] := by
    subst hW; simpa using Blk.new (w.alloc (.cells #[.int .i64 n, .int .i64 o, .slice A la ca, .slice B lb cb] 25)) 25 #[.int .i64 n, .int .i64 o, .slice A' la ca', .slice B' lb cb']
  have b0 : Below w.heap.size w W := by
    subst hW; exact ((Below.refl _ _).alloc (Nat.le_refl _) _).alloc (by simp) _
  rw [hW] at H1 H2 H3 H4 ⊢
  clear hW
  have hs0 := k1.lt
  have K0 := Lib.hid k0
  have K1 := Lib.hid k1
  have B0 := Lib.hid b0
  clear k0 k1 b0
  refine (eqIntS_same A A' la ca ca' X W _ _ H1.out H3.out hla).mono ?_
  rintro e w1 ⟨rfl, hb1⟩
  have c0 := (K0.out.below hb1 (by omega)).cell 3
  have c1 := (K1.out.below hb1 (by omega)).cell 3
  simp at c0 c1
  have hs1 := hb1.size
  have B1 := Lib.hid hb1
  clear hb1
  go_wp2_with (fail)
  refine (eqIntS_same B B' lb cb cb' Y w1 _ _ (H2.out.next B1.out) (H4.out.next B1.out) hlb).mono ?_
  rintro e w2 ⟨rfl, hb2⟩
  have B2 := Lib.hid hb2
  clear hb2
  go_wp2
  go_ret
  exact ⟨rfl, B0.out.trans ((B1.out.mono (by omega)).trans (B2.out.mono (by omega)))⟩

end Go.Proofs.Ytlcpbdbdiahmjaa



/- The walk of the law FnExactRingValid. -/
namespace Go.Proofs.Ytlcpbdbdiahmjaa
open Go.RowKit

theorem szR_yes {l : Int} {la lb : Nat} (h : (la : Int) + lb ≤ l) : szR l la lb = l - la - lb := if_pos h
theorem szR_no {l : Int} {la lb : Nat} (h : ¬ (la : Int) + lb ≤ l) : szR l la lb = -1 := if_neg h

end Go.Proofs.Ytlcpbdbdiahmjaa



/- Memory that a call hands out: marked and held. -/
namespace Go.Proofs.Ytlcpbdbdiahmjaa
open Go.RowKit

/-- A slice of ints whose cells lie from block D on and may be written. -/
def Own (w : World) (D : Nat) (A : Option Addr) (n : Nat) (xs : List Int) : Prop :=
  xs.length = n ∧ (0 < n → ∃ g off, A = some ⟨g, off, none⟩ ∧ D ≤ g ∧ g < w.heap.size ∧ ∀ k, k < n → w.cell? ⟨g, off + k, none⟩ = some (.int .i64 (xs[k]?.getD 0)) ∧ w.frozen? ⟨g, off + k, none⟩ = false)
/-- A place lies in a slice. -/
def InS (A : Option Addr) (n : Nat) (p : Addr) : Prop := ∃ g off k, A = some ⟨g, off, none⟩ ∧ k < n ∧ p = ⟨g, off + k, none⟩
/-- Two slices share no place. -/
def Apart (A : Option Addr) (n : Nat) (B : Option Addr) (m : Nat) : Prop := ∀ p, InS A n p → ¬ InS B m p
/-- Nothing has turned but the places of a slice. -/
def ButIn (w w' : World) (A : Option Addr) (n : Nat) : Prop := w'.heap.size = w.heap.size ∧ ∀ p, ¬ InS A n p → w'.cell? p = w.cell? p ∧ w'.frozen? p = w.frozen? p

theorem Own.ints {w : World} {D n : Nat} {A : Option Addr} {xs : List Int} (h : Own w D A n xs) : Ints w w.heap.size A n xs :=
  ⟨h.1, fun hn => by
    obtain ⟨g, off, e, _, hg, hc⟩ := h.2 hn
    refine ⟨g, off, e, hg, fun k x hx => ?_⟩
    have hk : k < n := by
      rcases Nat.lt_or_ge k n with h1 | h1
      · exact h1
      · rw [List.getElem?_eq_none (by have := h.1; omega)] at hx; cases hx
    rw [(hc k hk).1, hx]; rfl⟩
theorem Own.next {w w' : World} {D n : Nat} {A : Option Addr} {xs : List Int} (h : Own w D A n xs) (hb : Below w.heap.size w w') : Own w' D A n xs :=
  ⟨h.1, fun hn => by
    obtain ⟨g, off, e, hD, hg, hc⟩ := h.2 hn
    exact ⟨g, off, e, hD, Nat.lt_of_lt_of_le hg hb.size, fun k hk => ⟨(hb.cell hg).trans (hc k hk).1, (hb.frozen hg).trans (hc k hk).2⟩⟩⟩
theorem Own.kept {w w' : World} {D n m : Nat} {A B : Option Addr} {xs : List Int} (h : Own w D A n xs) (hb : ButIn w w' B m) (ha : Apart A n B m) : Own w' D A n xs :=
  ⟨h.1, fun hn => by
    obtain ⟨g, off, e, hD, hg, hc⟩ := h.2 hn
    refine ⟨g, off, e, hD, by rw [hb.1]; exact hg, fun k hk => ?_⟩
    have := hb.2 ⟨g, off + k, none⟩ (ha _ ⟨g, off, k, e, hk, rfl⟩)
    exact ⟨this.1.trans (hc k hk).1, this.2.trans (hc k hk).2⟩⟩
theorem own_of_row {w : World} {base g cap n : Nat} {xs : List Int} {T : TypeId} (h : w.ownsRow base T 1 (.slice (some ⟨g, 0, none⟩) n cap) n (xs.map (.int .i64))) (hn : xs.length = n) : Own w base (some ⟨g, 0, none⟩) n xs :=
  ⟨hn, fun h0 => ⟨g, 0, rfl, (h.lt g rfl).1, (h.lt g rfl).2, fun k hk => by
    refine ⟨?_, by rw [Nat.zero_add]; exact h.frozenAt k⟩
    rw [Nat.zero_add, h.cellAt k (by omega), List.getElem?_map, List.getElem?_eq_getElem (by omega)]; rfl⟩⟩
theorem Own.nil {w : World} {D : Nat} {A : Option Addr} : Own w D A 0 [] := ⟨rfl, fun h => absurd h (by omega)⟩

/-- A list whose head is marked with running numbers. -/
def markL (xs : List Int) (n : Nat) (b : Int) (k : Nat) : List Int := (List.range n).map fun j => if j < k then b + j else xs[j]?.getD 0
theorem markL_len {xs : List Int} {n : Nat} {b : Int} {k : Nat} : (markL xs n b k).length = n := by simp [markL]
theorem markL_get {xs : List Int} {n : Nat} {b : Int} {k j : Nat} (hj : j < n) : (markL xs n b k)[j]?.getD 0 = if j < k then b + j else xs[j]?.getD 0 := by
  unfold markL
  rw [List.getElem?_map, List.getElem?_range hj]; rfl

theorem mark_start {w : World} {D n : Nat} {A : Option Addr} {xs : List Int} {b : Int} (h : Own w D A n xs) : Own w D A n (markL xs n b 0) :=
  ⟨markL_len, fun hn => by
    obtain ⟨g, off, e, hD, hg, hc⟩ := h.2 hn
    exact ⟨g, off, e, hD, hg, fun k hk => by rw [markL_get hk, if_neg (by omega)]; exact hc k hk⟩⟩
theorem mark_step {w : World} {D n g off k : Nat} {xs : List Int} {b : Int} (h : Own w D (some ⟨g, off, none⟩) n (markL xs n b k)) (hk : k < n) :
    Own (w.setCell ⟨g, off + k, none⟩ (.int .i64 (b + k))) D (some ⟨g, off, none⟩) n (markL xs n b (k + 1)) :=
  ⟨markL_len, fun hn => by
    obtain ⟨g', off', e, hD, hg, hc⟩ := h.2 hn
    simp only [Option.some.injEq, Addr.mk.injEq, and_true] at e
    obtain ⟨rfl, rfl⟩ := e
    refine ⟨g, off, rfl, hD, by simpa using hg, fun j hj => ⟨?_, (World.frozen?_setCell _ _ _ _).trans (hc j hj).2⟩⟩
    rw [markL_get hj]
    by_cases e : j = k
    · subst e
      rw [if_pos (by omega)]
      exact World.cell?_setCell_same _ _ _ (hc j hj).1
    · rw [World.cell?_setCell_other _ _ _ _ (fun h => e (by injection h with _ h1 _; omega)), (hc j hj).1, markL_get hj]
      by_cases h1 : j < k
      · rw [if_pos h1, if_pos (by omega)]
      · rw [if_neg h1, if_neg (by omega)]⟩
theorem but_step {w w' : World} {n g off k : Nat} {u : Value} (h : ButIn w w' (some ⟨g, off, none⟩) n) (hk : k < n) : ButIn w (w'.setCell ⟨g, off + k, none⟩ u) (some ⟨g, off, none⟩) n :=
  ⟨by simpa using h.1, fun p hp => by
    have hne : (⟨g, off + k, none⟩ : Addr) ≠ p := fun e => hp ⟨g, off, k, rfl, hk, e.symm⟩
    exact ⟨(World.cell?_setCell_other _ _ _ _ hne).trans (h.2 p hp).1, (World.frozen?_setCell _ _ _ _).trans (h.2 p hp).2⟩⟩

set_option maxHeartbeats 1000000 in
theorem markIntS_any (A : Option Addr) (n cap : Nat) (xs : List Int) (b : Int) (w : World) (D : Nat) (hA : Own w D A n xs) (hn : n ≤ 1048576) (h0 : 0 ≤ b) (h1 : b ≤ 4194304) :
    Calls Try.prog 32 #[.slice A n cap, .int .i64 b] w fun e w' => e = .returned (.int .i64 (b + n)) ∧ Own w' D A n (markL xs n b n) ∧ ButIn w w' A n ∧ Below D w w' := by
  have HA := Lib.hid hA
  clear hA
  go_enter Try.func32, Try.ntmps32
  go_wp2
  go_loopw [1, 5] (fun s i wr => ∃ k : Nat, k ≤ n ∧ s = .int .i64 (b + k) ∧ i = .int .i64 k ∧ Own wr D A n (markL xs n b k) ∧ ButIn w wr A n ∧ Below D w wr) (fun _ i _ => n - (intOf i).toNat)
  case atStart => exact ⟨0, Nat.zero_le _, by simp, rfl, mark_start HA.out, ⟨rfl, fun p _ => ⟨rfl, rfl⟩⟩, Below.refl _ _⟩
  case round =>
    obtain ⟨k, hk, rfl, rfl, hown, hbut, hbel⟩ := hrel
    have BU := Lib.hid hbut
    have BE := Lib.hid hbel
    have OW := Lib.hid hown
    clear hbut hbel hown
    by_cases hlt : k < n
    · obtain ⟨g, off, rfl, hD, hg, hc⟩ := OW.out.2 (by omega)
      obtain ⟨hck, hfk⟩ := hc k hlt
      clear hc
      go_wp2
      go_roundw
      case rel => exact ⟨k + 1, by omega, by go_num, by go_num, mark_step OW.out hlt, but_step BU.out hlt, BE.out.setCell hD _⟩
      case measure => simp [intOf]; omega
    · have hkn : k = n := by omega
      subst hkn
      go_wp2
      go_ret
      exact ⟨rfl, OW.out, BU.out, BE.out⟩

/-- A slice that holds its marks. -/
def HeldTo (xs : List Int) (n : Nat) (b : Int) : Prop := ∀ j, j < n → xs[j]?.getD 0 = b + j
theorem held_mark {xs : List Int} {n : Nat} {b : Int} : HeldTo (markL xs n b n) n b := fun j hj => by rw [markL_get hj, if_pos hj]

set_option maxHeartbeats 1000000 in
theorem heldIntS_any (A : Option Addr) (n cap : Nat) (xs : List Int) (b : Int) (w : World) (D : Nat) (hA : Ints w D A n xs) (hh : HeldTo xs n b) (hn : n ≤ 1048576) (h0 : 0 ≤ b) (h1 : b ≤ 4194304) :
    Calls Try.prog 33 #[.slice A n cap, .int .i64 b] w fun e w' => e = .returned (.int .i64 (b + n)) ∧ w = w' := by
  have HA := Lib.hid hA
  have HH := Lib.hid hh
  clear hA hh
  go_enter Try.func33, Try.ntmps33
  go_wp2
  go_loop [1, 5] (fun s i => ∃ k : Nat, k ≤ n ∧ s = .int .i64 (b + k) ∧ i = .int .i64 k) (fun _ i => n - (intOf i).toNat)
  case atStart => exact ⟨0, Nat.zero_le _, by simp, rfl⟩
  case round =>
    obtain ⟨k, hk, rfl, rfl⟩ := hrel
    by_cases hlt : k < n
    · obtain ⟨g, off, rfl, hg, hc⟩ := HA.out.at_ hlt
      rw [HH.out k hlt] at hc
      have tt : (b + (k : Int) != b + (k : Int)) = false := by rw [bne_eq_false_iff_eq]
      go_wp2
      go_round
      case rel => exact ⟨k + 1, by omega, by go_num, by go_num⟩
      case measure => simp [intOf]; omega
    · have hkn : k = n := by omega
      subst hkn
      go_wp2
      go_ret
      exact ⟨rfl, rfl⟩

theorem own_not_new {w : World} {D n : Nat} {A : Option Addr} {xs : List Int} (h : Own w D A n xs) : ∀ k, ¬ InS A n ⟨w.heap.size, k, none⟩ := by
  rintro k ⟨g, off, j, e, hj, hp⟩
  obtain ⟨g', off', e', _, hg, _⟩ := h.2 (by omega)
  rw [e] at e'
  simp only [Option.some.injEq, Addr.mk.injEq, and_true] at e' hp
  omega

set_option maxHeartbeats 2000000 in
theorem markRing_any (n o : Int) (A B : Option Addr) (la ca lb cb : Nat) (X Y : List Int) (b : Int) (w : World) (D : Nat) (hX : Own w D A la X) (hY : Own w D B lb Y) (ha : Apart A la B lb) (hD : D ≤ w.heap.size) (hla : la ≤ 1048576) (hlb : lb ≤ 1048576) (h0 : 0 ≤ b) (h1 : b ≤ 1048576) :
    Calls Try.prog 41 #[.agg #[.int .i64 n, .int .i64 o, .slice A la ca, .slice B lb cb], .int .i64 b] w fun e w' => e = .returned (.int .i64 (b + la + lb)) ∧ Own w' D A la (markL X la b la) ∧ Own w' D B lb (markL Y lb (b + la) lb) ∧
      (∀ p : Addr, p.block < w.heap.size → ¬ InS A la p → ¬ InS B lb p → w'.cell? p = w.cell? p ∧ w'.frozen? p = w.frozen? p) ∧ Below D w w' := by
  have b0 : Below w.heap.size w (w.alloc (.cells #[.int .i64 n, .int .i64 o, .slice A la ca, .slice B lb cb] 25)) := (Below.refl _ _).alloc (Nat.le_refl _) _
  have OX := Lib.hid (hX.next b0)
  have OY := Lib.hid (hY.next b0)
  have AP := Lib.hid ha
  have AQ := Lib.hid (show Apart B lb A la from fun p h1 h2 => ha p h2 h1)
  have hbx := Lib.hid (Blk.new w 25 #[.int .i64 n, .int .i64 o, .slice A la ca, .slice B lb cb])
  have nx := Lib.hid (show ∀ k, ¬ InS A la ⟨w.heap.size, k, none⟩ from own_not_new hX)
  have ny := Lib.hid (show ∀ k, ¬ InS B lb ⟨w.heap.size, k, none⟩ from own_not_new hY)
  have B0 := Lib.hid b0
  clear hX hY ha b0
  go_enter Try.func41, Try.ntmps41
  go_wp2_with (fail)
  obtain ⟨W, hW⟩ : ∃ W, w.alloc (.cells #[.int .i64 n, .int .i64 o, .slice A la ca, .slice B lb cb] 25) = W := ⟨_, rfl⟩
  rw [hW] at OX OY hbx B0 ⊢
  have hsz : W.heap.size = w.heap.size + 1 := by subst hW; simp
  have HS := Lib.hid hsz
  clear hW hsz
  refine (markIntS_any A la ca X b W D OX.out hla h0 (by omega)).mono ?_
  rintro e1 w1 ⟨rfl, o1, bi1, bl1⟩
  have c3 := (bi1.2 ⟨w.heap.size, 3, none⟩ (nx.out 3)).1.trans (hbx.out.cell 3)
  have OX1 := Lib.hid o1
  have OY1 := Lib.hid (OY.out.kept bi1 AQ.out)
  have BI1 := Lib.hid bi1
  have BL1 := Lib.hid bl1
  simp at c3
  clear o1 bi1 bl1
  go_wp2_with (fail)
  refine (markIntS_any B lb cb Y (b + la) w1 D OY1.out hlb (by omega) (by omega)).mono ?_
  rintro e2 w2 ⟨rfl, o2, bi2, bl2⟩
  have OX2 := Lib.hid (OX1.out.kept bi2 AP.out)
  have OY2 := Lib.hid o2
  have BI2 := Lib.hid bi2
  have BL2 := Lib.hid bl2
  clear o2 bi2 bl2
  go_wp2
  go_ret
  refine ⟨rfl, OX2.out, OY2.out, fun p hp h3 h4 => ?_, ((B0.out.mono hD).trans BL1.out).trans BL2.out⟩
  have e1 := BI1.out.2 p h3
  have e2 := BI2.out.2 p h4
  exact ⟨e2.1.trans (e1.1.trans (B0.out.cell hp)), e2.2.trans (e1.2.trans (B0.out.frozen hp))⟩

end Go.Proofs.Ytlcpbdbdiahmjaa



/- Lists that a call hands out: own memory; what the marks of a ring leave of them. -/
namespace Go.Proofs.Ytlcpbdbdiahmjaa
open Go.RowKit

/-- A list whose memory is the call's own. -/
def SliceOut (D : Nat) (w : World) (v : Value) (Z : List Int) : Prop := ∃ (A : Option Addr) (l c : Nat), v = .slice A l c ∧ Own w D A l Z ∧ l ≤ c ∧ l ≤ 1048570
theorem SliceOut.nil {D : Nat} {w : World} : SliceOut D w (.slice none 0 0) [] := ⟨none, 0, 0, rfl, Own.nil, Nat.le_refl _, by omega⟩
theorem SliceOut.next {D : Nat} {w w' : World} {v : Value} {Z : List Int} (h : SliceOut D w v Z) (hb : Below w.heap.size w w') : SliceOut D w' v Z := by
  obtain ⟨A, l, c, e, h1, h2⟩ := h
  exact ⟨A, l, c, e, h1.next hb, h2⟩
theorem Own.down {w : World} {D D' n : Nat} {A : Option Addr} {xs : List Int} (h : Own w D A n xs) (hD : D' ≤ D) : Own w D' A n xs :=
  ⟨h.1, fun hn => by
    obtain ⟨g, off, e, h1, h2⟩ := h.2 hn
    exact ⟨g, off, e, Nat.le_trans hD h1, h2⟩⟩
theorem SliceOut.down {D D' : Nat} {w : World} {v : Value} {Z : List Int} (h : SliceOut D w v Z) (hD : D' ≤ D) : SliceOut D' w v Z := by
  obtain ⟨A, l, c, e, h1, h2⟩ := h
  exact ⟨A, l, c, e, h1.down hD, h2⟩
theorem SliceOut.of_row {D n : Nat} {w : World} {v : Value} {Z : List Int} {T : TypeId} (h : w.ownsRow D T 1 v n (Z.map (.int .i64))) (hn : Z.length = n) (hl : n ≤ 1048570) : SliceOut D w v Z := by
  rcases h.2 with ⟨rfl, h0⟩ | ⟨g, cap, cur, rfl, _, _, hc, _⟩
  · subst h0
    obtain rfl := List.eq_nil_of_length_eq_zero hn
    exact SliceOut.nil
  · exact ⟨_, _, _, rfl, own_of_row h hn, hc, hl⟩
/-- What the marks of a ring leave of another list. -/
theorem Own.marked {w w' : World} {D n g1 g2 k1 k2 : Nat} {A : Option Addr} {xs : List Int} (h : Own w D A n xs) (hs : w.heap.size ≤ w'.heap.size)
    (hk : ∀ p : Addr, p.block < w.heap.size → ¬ InS (some ⟨g1, 0, none⟩) k1 p → ¬ InS (some ⟨g2, 0, none⟩) k2 p → w'.cell? p = w.cell? p ∧ w'.frozen? p = w.frozen? p) (h1 : g1 < D) (h2 : g2 < D) : Own w' D A n xs :=
  ⟨h.1, fun hn => by
    obtain ⟨g, off, e, hD, hg, hc⟩ := h.2 hn
    refine ⟨g, off, e, hD, Nat.lt_of_lt_of_le hg hs, fun k hkn => ?_⟩
    have := hk ⟨g, off + k, none⟩ hg (fun ⟨g', off', j, e', _, ep⟩ => by
        simp only [Option.some.injEq, Addr.mk.injEq, and_true] at e' ep
        omega) (fun ⟨g', off', j, e', _, ep⟩ => by
        simp only [Option.some.injEq, Addr.mk.injEq, and_true] at e' ep
        omega)
    exact ⟨this.1.trans (hc k hkn).1, this.2.trans (hc k hkn).2⟩⟩
/-- What the marks of a list leave of another list. -/
theorem Own.markedI {w w' : World} {D n g k : Nat} {A : Option Addr} {xs : List Int} (h : Own w D A n xs) (hb : ButIn w w' (some ⟨g, 0, none⟩) k) (hg : g < D) : Own w' D A n xs :=
  h.kept hb fun p ⟨q, off, j, e, _, ep⟩ ⟨q', off', j', e', _, ep'⟩ => by
    subst ep
    simp only [Option.some.injEq, Addr.mk.injEq, and_true] at e' ep'
    obtain ⟨q2, off2, e2, hD, _⟩ := h.2 (by omega)
    rw [e] at e2
    simp only [Option.some.injEq, Addr.mk.injEq, and_true] at e2
    omega
theorem apart_two {g1 g2 k1 k2 : Nat} (h : g1 < g2) : Apart (some ⟨g1, 0, none⟩) k1 (some ⟨g2, 0, none⟩) k2 := by
  rintro p ⟨q, off, j, e, _, rfl⟩ ⟨q', off', j', e', _, ep⟩
  simp only [Option.some.injEq, Addr.mk.injEq, and_true] at e e' ep
  omega

end Go.Proofs.Ytlcpbdbdiahmjaa



/- The text of a table: appendTable. -/
namespace Go.Proofs.Ytlcpbdbdiahmjaa
open Go.RowKit

/-- The digit of an element. -/
def dig (t : Nat) : UInt8 := #[48, 49, 50, 51, 52, 53, 54, 55, 56, 57, 97, 98, 99, 100, 101, 102].getD t 48
theorem dig_at (t : Nat) (h : t < 16) : ({ data := #[48, 49, 50, 51, 52, 53, 54, 55, 56, 57, 97, 98, 99, 100, 101, 102] } : ByteArray)[t]'h = dig t := by
  have g : ∀ t : Fin 16, (#[48, 49, 50, 51, 52, 53, 54, 55, 56, 57, 97, 98, 99, 100, 101, 102] : Array UInt8)[t.val]'t.isLt = dig t.val := by decide
  exact g ⟨t, h⟩
theorem Blk.grown {w w' : World} {g : Nat} {t : TypeId} {cs : Array Value} {row : Option Nat} (h : Blk w g t cs) (hb : w.grownBy w' row) (hg : some g ≠ row) : Blk w' g t cs := (hb.block g h.lt hg).trans h
end Go.Proofs.Ytlcpbdbdiahmjaa



/- The text of a ring: FormatRing. -/
namespace Go.Proofs.Ytlcpbdbdiahmjaa
open Go.RowKit

attribute [local go_sem] dig_at

end Go.Proofs.Ytlcpbdbdiahmjaa



/- Plain facts: what follows from the laws of a ring given by tables: sums, opposites, repeated sums, powers. No program in sight. -/
namespace Go.Proofs.Ytlcpbdbdiahmjaa
open Go.RowKit

/-- Tables of a ring. -/
structure RTab (m : Nat) (S P : Nat → Nat) (e : Nat) : Prop where
  hm : 1 ≤ m
  he : e < m
  sl : ∀ k, k < m * m → S k < m
  pl : ∀ k, k < m * m → P k < m
  s : OpLaw m S 0
  p : OpLaw m P e
  n : NegLaw m S
  d : DistLaw m S P
theorem rtab_of_valid {m e : Nat} {X Y : List Int} (h : validB m e X Y = true) : RTab m (tabOf X) (tabOf Y) e := by
  unfold validB at h
  rw [Bool.and_eq_true] at h
  obtain ⟨hf, hl⟩ := h
  obtain ⟨m', e', em, ee, h1, h2, h3, _, _, tX, tY⟩ := fits_data hf
  have em' : m = m' := by omega
  have ee' : e = e' := by omega
  subst em' ee'
  simp only [Int.toNat_natCast] at hl
  obtain ⟨l1, l2, l3, l4⟩ := laws_iff.1 hl
  exact ⟨h1, h3, fun k hk => (tX k hk).2, fun k hk => (tY k hk).2, l1, l2, l3, l4⟩

theorem idx_data {xs : List Int} {v : Int} {c : Nat} (h : idx xs v = c) : c < xs.length ∧ xs[c]?.getD 0 = v := by
  unfold idx at h
  split at h
  · rename_i hl
    have h1 := List.findIdx_getElem (w := hl)
    have h2 : xs[xs.findIdx (· == v)] = v := by simpa using h1
    have e : xs.findIdx (· == v) = c := by omega
    subst e
    refine ⟨hl, ?_⟩
    rw [List.getElem?_eq_getElem hl]
    exact h2
  · omega
section
variable {m e : Nat} {S P : Nat → Nat}
theorem RTab.sc (R : RTab m S P e) {a b : Nat} (ha : a < m) (hb : b < m) : S (a * m + b) < m := R.sl _ (idx_lt ha hb)
theorem RTab.pc (R : RTab m S P e) {a b : Nat} (ha : a < m) (hb : b < m) : P (a * m + b) < m := R.pl _ (idx_lt ha hb)
theorem RTab.z (R : RTab m S P e) : 0 < m := R.hm
/-- Sums and products as operations. -/
def RTab.A (R : RTab m S P e) (a b : Fin m) : Fin m := ⟨S (a.1 * m + b.1), R.sc a.2 b.2⟩
def RTab.M (R : RTab m S P e) (a b : Fin m) : Fin m := ⟨P (a.1 * m + b.1), R.pc a.2 b.2⟩
def RTab.o (R : RTab m S P e) : Fin m := ⟨e, R.he⟩
def RTab.t (R : RTab m S P e) : Fin m := ⟨0, R.hm⟩
theorem RTab.Ac (R : RTab m S P e) (a b : Fin m) : R.A a b = R.A b a := Fin.ext (R.s.comm a.2 b.2)
theorem RTab.Mc (R : RTab m S P e) (a b : Fin m) : R.M a b = R.M b a := Fin.ext (R.p.comm a.2 b.2)
theorem RTab.Ma (R : RTab m S P e) (a b c : Fin m) : R.M (R.M a b) c = R.M a (R.M b c) := Fin.ext (R.p.assoc a.2 b.2 c.2)
theorem RTab.MA (R : RTab m S P e) (a b c : Fin m) : R.M a (R.A b c) = R.A (R.M a b) (R.M a c) := Fin.ext (R.d a.1 a.2 b.1 b.2 c.1 c.2)
theorem RTab.A0 (R : RTab m S P e) (a : Fin m) : R.A a R.t = a := Fin.ext (R.s.zero a.2)
theorem RTab.M1 (R : RTab m S P e) (a : Fin m) : R.M a R.o = a := Fin.ext (R.p.zero a.2)
theorem RTab.O1 (R : RTab m S P e) (a : Fin m) : R.M R.o a = a := by rw [R.Mc, R.M1]
theorem RTab.inj (R : RTab m S P e) {a b c : Fin m} (h : R.A a c = R.A b c) : a = b := Fin.ext (sum_inj R.s R.n c.2 a.2 b.2 (congrArg Fin.val h))
theorem RTab.injL (R : RTab m S P e) {a b c : Fin m} (h : R.A c a = R.A c b) : a = b := R.inj (c := c) (by rw [R.Ac a, R.Ac b]; exact h)
theorem RTab.M0 (R : RTab m S P e) (a : Fin m) : R.M a R.t = R.t := by
  have h := R.MA a R.t R.t
  rw [R.A0] at h
  exact (R.injL (c := R.M a R.t) (by rw [R.A0]; exact h)).symm
theorem RTab.T0 (R : RTab m S P e) (a : Fin m) : R.M R.t a = R.t := by rw [R.Mc, R.M0]
/-- The opposite. -/
theorem RTab.negEx (R : RTab m S P e) {a : Nat} (ha : a < m) : ∃ c, c < m ∧ negN m S a = c ∧ S (a * m + c) = 0 := by
  have h := R.n a ha
  have h0 : 0 ≤ negN m S a := idx_nonneg.2 h
  obtain ⟨c, hc⟩ := Int.eq_ofNat_of_zero_le h0
  obtain ⟨hc', hg⟩ := idx_data hc
  rw [rowL_length] at hc'
  rw [rowL_get hc'] at hg
  exact ⟨c, hc', hc, by omega⟩
end


section
variable {m e : Nat} {S P : Nat → Nat}
end

end Go.Proofs.Ytlcpbdbdiahmjaa



/- Plain facts: lists that part into blocks of one size; the characteristic divides the size. No program in sight. -/
namespace Go.Proofs.Ytlcpbdbdiahmjaa
open Go.RowKit

section
variable {m e : Nat} {S P : Nat → Nat}
end

end Go.Proofs.Ytlcpbdbdiahmjaa



/- Drawn laws: contracts over a ring that lies in a world. -/
namespace Go.Proofs.Ytlcpbdbdiahmjaa
open Go.RowKit
set_option maxRecDepth 100000

/-- A ring lies in a world, valid or not. -/
structure RIn (w : World) (A : Option Addr) (la ca : Nat) (B : Option Addr) (lb cb : Nat) (X Y : List Int) : Prop where
  hX : Ints w w.heap.size A la X
  hY : Ints w w.heap.size B lb Y
  hla : la ≤ 9223372036854775807
  hlb : lb ≤ 9223372036854775807
  hca : la ≤ ca
  hcb : lb ≤ cb
theorem RIn.next {w w' : World} {A B : Option Addr} {la ca lb cb : Nat} {X Y : List Int} (h : RIn w A la ca B lb cb X Y) (hb : Below w.heap.size w w') : RIn w' A la ca B lb cb X Y :=
  ⟨h.hX.next hb, h.hY.next hb, h.hla, h.hlb, h.hca, h.hcb⟩
section
variable {n o : Int} {A B : Option Addr} {la ca lb cb : Nat} {X Y : List Int} {w : World}
end

section
variable {m e : Nat} {X Y : List Int}
end

end Go.Proofs.Ytlcpbdbdiahmjaa

