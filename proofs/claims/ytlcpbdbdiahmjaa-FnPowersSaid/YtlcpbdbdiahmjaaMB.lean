/- Texts of this seat in one: B3 C1 B4 M1 N1 B5 B6 B7 B8 C2 C3 C4 C5 F1 F2 E1 E2 Y1. -/
import Derived.Test.YtlcpbdbdiahmjaaMA
import Derived.Laws.IdiomStrings

/- The contracts of Add, Mul, Neg, Times, Power and CharacteristicOf, of both sides. -/
namespace Go.Proofs.Ytlcpbdbdiahmjaa
open Go.RowKit

/-- What Add (T the sums) and Mul (T the products) return. -/
noncomputable def opV (T : Nat → Nat) (n o : Int) (X Y : List Int) (a b : Int) : Int := if validB n o X Y = true ∧ inB n a = true ∧ inB n b = true then (T (a.toNat * n.toNat + b.toNat) : Nat) else -1
theorem opV_no {T : Nat → Nat} {n o : Int} {X Y : List Int} {a b : Int} (h : ¬ (validB n o X Y = true ∧ inB n a = true ∧ inB n b = true)) : opV T n o X Y a b = -1 := if_neg h
theorem opV_yes {T : Nat → Nat} {m e a b : Nat} {X Y : List Int} (h : validB m e X Y = true) (ha : inB m a = true) (hb : inB m b = true) : opV T m e X Y a b = (T (a * m + b) : Nat) := if_pos ⟨h, ha, hb⟩
set_option maxHeartbeats 2000000 in
theorem mul_any (n o : Int) (A B : Option Addr) (la ca lb cb : Nat) (X Y : List Int) (a b : Int) (w : World) (hX : Ints w w.heap.size A la X) (hY : Ints w w.heap.size B lb Y) (hla : la ≤ 9223372036854775807) (hlb : lb ≤ 9223372036854775807) (hca : la ≤ ca) (hcb : lb ≤ cb) :
    Calls Try.prog 27 #[.agg #[.int .i64 n, .int .i64 o, .slice A la ca, .slice B lb cb], .int .i64 a, .int .i64 b] w fun e w' => e = .returned (.int .i64 (opV (tabOf Y) n o X Y a b)) ∧ Below w.heap.size w w' := by
  cases hv : validB n o X Y
  · have hz := Lib.hid (opV_no (T := tabOf Y) (a := a) (b := b) (show ¬ (validB n o X Y = true ∧ inB n a = true ∧ inB n b = true) by rw [hv]; simp))
    obtain ⟨c0, c1, c2, c3, hs⟩ := box4_new w (.int .i64 n) (.int .i64 o) (.slice A la ca) (.slice B lb cb) 25
    obtain ⟨W, hW⟩ : ∃ W, w.alloc (.cells #[.int .i64 n, .int .i64 o, .slice A la ca, .slice B lb cb] 25) = W := ⟨_, rfl⟩
    have HB := Lib.hid (show Below w.heap.size w W by subst hW; exact (Below.refl w.heap.size w).alloc (Nat.le_refl _) _)
    have H0X := Lib.hid (hX.next HB.out)
    have H0Y := Lib.hid (hY.next HB.out)
    rw [hW] at c0 c1 c2 c3 hs
    have HW := Lib.hid hW
    clear hW hX hY
    go_enter Try.func27, Try.ntmps27
    go_wp2_with (fail)
    rw [HW.out]
    have X0 := HB
    go_wp2_with (first
      | (go_at_call 71; ((with_reducible refine (valid_any _ _ _ _ _ _ _ _ X Y _ H0X.out H0Y.out hla hlb hca hcb).mono ?_); rintro e1 w1 ⟨rfl, hb1⟩; obtain ⟨d0, d1, d2, d3, hs1⟩ := box4_next hb1 (by omega) c0 c1 c2 c3; have X1 := Lib.hid (X0.out.trans (hb1.mono (by omega))); clear hb1)))
    go_ret
    exact ⟨ret_int hz.out.symm, X1.out⟩
  · cases ha : inB n a
    · have hz := Lib.hid (opV_no (T := tabOf Y) (a := a) (b := b) (show ¬ (validB n o X Y = true ∧ inB n a = true ∧ inB n b = true) by rw [ha]; simp))
      obtain ⟨c0, c1, c2, c3, hs⟩ := box4_new w (.int .i64 n) (.int .i64 o) (.slice A la ca) (.slice B lb cb) 25
      obtain ⟨W, hW⟩ : ∃ W, w.alloc (.cells #[.int .i64 n, .int .i64 o, .slice A la ca, .slice B lb cb] 25) = W := ⟨_, rfl⟩
      have HB := Lib.hid (show Below w.heap.size w W by subst hW; exact (Below.refl w.heap.size w).alloc (Nat.le_refl _) _)
      have H0X := Lib.hid (hX.next HB.out)
      have H0Y := Lib.hid (hY.next HB.out)
      rw [hW] at c0 c1 c2 c3 hs
      have HW := Lib.hid hW
      clear hW hX hY
      go_enter Try.func27, Try.ntmps27
      go_wp2_with (fail)
      rw [HW.out]
      have X0 := HB
      go_wp2_with (first
        | (go_at_call 71; ((with_reducible refine (valid_any _ _ _ _ _ _ _ _ X Y _ H0X.out H0Y.out hla hlb hca hcb).mono ?_); rintro e1 w1 ⟨rfl, hb1⟩; obtain ⟨d0, d1, d2, d3, hs1⟩ := box4_next hb1 (by omega) c0 c1 c2 c3; have X1 := Lib.hid (X0.out.trans (hb1.mono (by omega))); clear hb1))
        | (go_at_call 72; ((with_reducible refine (has_any _ _ a _ _ _ _ _ _ _).mono ?_); rintro e2 w2 ⟨rfl, hb2⟩; obtain ⟨f0, f1, f2, f3, hs2⟩ := box4_next hb2 (by omega) d0 d1 d2 d3; have X2 := Lib.hid (X1.out.trans (hb2.mono (by omega))); clear hb2)))
      go_ret
      exact ⟨ret_int hz.out.symm, X2.out⟩
    · cases hb : inB n b
      · have hz := Lib.hid (opV_no (T := tabOf Y) (a := a) (b := b) (show ¬ (validB n o X Y = true ∧ inB n a = true ∧ inB n b = true) by rw [hb]; simp))
        obtain ⟨c0, c1, c2, c3, hs⟩ := box4_new w (.int .i64 n) (.int .i64 o) (.slice A la ca) (.slice B lb cb) 25
        obtain ⟨W, hW⟩ : ∃ W, w.alloc (.cells #[.int .i64 n, .int .i64 o, .slice A la ca, .slice B lb cb] 25) = W := ⟨_, rfl⟩
        have HB := Lib.hid (show Below w.heap.size w W by subst hW; exact (Below.refl w.heap.size w).alloc (Nat.le_refl _) _)
        have H0X := Lib.hid (hX.next HB.out)
        have H0Y := Lib.hid (hY.next HB.out)
        rw [hW] at c0 c1 c2 c3 hs
        have HW := Lib.hid hW
        clear hW hX hY
        go_enter Try.func27, Try.ntmps27
        go_wp2_with (fail)
        rw [HW.out]
        have X0 := HB
        go_wp2_with (first
          | (go_at_call 71; ((with_reducible refine (valid_any _ _ _ _ _ _ _ _ X Y _ H0X.out H0Y.out hla hlb hca hcb).mono ?_); rintro e1 w1 ⟨rfl, hb1⟩; obtain ⟨d0, d1, d2, d3, hs1⟩ := box4_next hb1 (by omega) c0 c1 c2 c3; have X1 := Lib.hid (X0.out.trans (hb1.mono (by omega))); clear hb1))
          | (go_at_call 72; ((with_reducible refine (has_any _ _ a _ _ _ _ _ _ _).mono ?_); rintro e2 w2 ⟨rfl, hb2⟩; obtain ⟨f0, f1, f2, f3, hs2⟩ := box4_next hb2 (by omega) d0 d1 d2 d3; have X2 := Lib.hid (X1.out.trans (hb2.mono (by omega))); clear hb2))
          | (go_at_call 72; ((with_reducible refine (has_any _ _ b _ _ _ _ _ _ _).mono ?_); rintro e3 w3 ⟨rfl, hb3⟩; obtain ⟨g0, g1, g2, g3, hs3⟩ := box4_next hb3 (by omega) f0 f1 f2 f3; have X3 := Lib.hid (X2.out.trans (hb3.mono (by omega))); clear hb3)))
        go_ret
        exact ⟨ret_int hz.out.symm, X3.out⟩
      · obtain ⟨m, e, b1, o1, b2, o2, rfl, rfl, rfl, rfl, hr, _, _, _, _, _⟩ := valid_data hv hX hY hca hcb
        have HR := Lib.hid hr
        clear hr
        have ha' := of_decide_eq_true ha
        have hb' := of_decide_eq_true hb
        obtain ⟨a, rfl⟩ := Int.eq_ofNat_of_zero_le ha'.1
        obtain ⟨b, rfl⟩ := Int.eq_ofNat_of_zero_le hb'.1
        have la' : a < m := by omega
        have lb' : b < m := by omega
        have hz := Lib.hid (opV_yes (T := tabOf Y) hv ha hb)
        obtain ⟨c0, c1, c2, c3, hs⟩ := box4_new w (.int .i64 m) (.int .i64 e) (.slice (some ⟨b1, o1, none⟩) la ca) (.slice (some ⟨b2, o2, none⟩) lb cb) 25
        obtain ⟨W, hW⟩ : ∃ W, w.alloc (.cells #[.int .i64 m, .int .i64 e, .slice (some ⟨b1, o1, none⟩) la ca, .slice (some ⟨b2, o2, none⟩) lb cb] 25) = W := ⟨_, rfl⟩
        have HB := Lib.hid (show Below w.heap.size w W by subst hW; exact (Below.refl w.heap.size w).alloc (Nat.le_refl _) _)
        have H0X := Lib.hid (hX.next HB.out)
        have H0Y := Lib.hid (hY.next HB.out)
        rw [hW] at c0 c1 c2 c3 hs
        have HW := Lib.hid hW
        clear hW hX hY
        have R0 := Lib.hid (HR.out.next HB.out)
        go_enter Try.func27, Try.ntmps27
        go_wp2_with (fail)
        rw [HW.out]
        have X0 := HB
        go_wp2_with (first
          | (go_at_call 71; ((with_reducible refine (valid_any _ _ _ _ _ _ _ _ X Y _ H0X.out H0Y.out hla hlb hca hcb).mono ?_); rintro e1 w1 ⟨rfl, hb1⟩; obtain ⟨d0, d1, d2, d3, hs1⟩ := box4_next hb1 (by omega) c0 c1 c2 c3; have X1 := Lib.hid (X0.out.trans (hb1.mono (by omega))); have R1 := Lib.hid (R0.out.next hb1); clear hb1))
          | (go_at_call 72; ((with_reducible refine (has_any _ _ a _ _ _ _ _ _ _).mono ?_); rintro e2 w2 ⟨rfl, hb2⟩; obtain ⟨f0, f1, f2, f3, hs2⟩ := box4_next hb2 (by omega) d0 d1 d2 d3; have X2 := Lib.hid (X1.out.trans (hb2.mono (by omega))); have R2 := Lib.hid (R1.out.next hb2); clear hb2))
          | (go_at_call 72; ((with_reducible refine (has_any _ _ b _ _ _ _ _ _ _).mono ?_); rintro e3 w3 ⟨rfl, hb3⟩; obtain ⟨g0, g1, g2, g3, hs3⟩ := box4_next hb3 (by omega) f0 f1 f2 f3; have X3 := Lib.hid (X2.out.trans (hb3.mono (by omega))); have R3 := Lib.hid (R2.out.next hb3); clear hb3))
          | (go_at_call 78; ((with_reducible refine (product_any a b m e b1 o1 la ca b2 o2 lb cb (tabOf X) (tabOf Y) _ R3.out la' lb').mono ?_); rintro e4 w4 ⟨rfl, hb4⟩; obtain ⟨k0, k1, k2, k3, hs4⟩ := box4_next hb4 (by omega) g0 g1 g2 g3; have X4 := Lib.hid (X3.out.trans (hb4.mono (by omega))); clear hb4)))
        go_ret
        exact ⟨ret_int hz.out.symm, X4.out⟩

end Go.Proofs.Ytlcpbdbdiahmjaa



/- The laws' helpers: copies of lists and rings. -/
namespace Go.Proofs.Ytlcpbdbdiahmjaa
open Go.RowKit

def Blk (w : World) (g : Nat) (t : TypeId) (cs : Array Value) : Prop := w.heap[g]? = some (.cells cs t (0, 0))
section
variable {w w' : World} {g : Nat} {t : TypeId} {cs : Array Value}
theorem Blk.lt (h : Blk w g t cs) : g < w.heap.size := by
  rcases Nat.lt_or_ge g w.heap.size with hlt | hge
  · exact hlt
  · unfold Blk at h; rw [Array.getElem?_eq_none hge] at h; cases h
theorem Blk.cell (h : Blk w g t cs) (i : Nat) : w.cell? ⟨g, i, none⟩ = cs[i]? := cell_of_row w g i cs t (0, 0) h
theorem Blk.frozen (h : Blk w g t cs) (i : Nat) : w.frozen? ⟨g, i, none⟩ = false := by
  unfold Blk at h
  simp [World.frozen?, h]
theorem Blk.new (w : World) (t : TypeId) (cs : Array Value) : Blk (w.alloc (.cells cs t)) w.heap.size t cs := heap_alloc_new w _
theorem Blk.drewN (h : Blk w g t cs) (n : Nat) : Blk (w.drewN n) g t cs := h
theorem Blk.alloc (h : Blk w g t cs) (o : Obj) : Blk (w.alloc o) g t cs := (Below.heap_alloc w o g h.lt).trans h
theorem Blk.set_ (h : Blk w g t cs) (i : Nat) (u : Value) : Blk (w.setCell ⟨g, i, none⟩ u) g t (cs.setIfInBounds i u) := by
  unfold Blk at h ⊢
  simp [World.setCell, Array.getElem?_modify, h]
theorem Blk.far (h : Blk w g t cs) {p : Addr} (hp : g ≠ p.block) (u : Value) : Blk (w.setCell p u) g t cs := (Below.heap_setCell w p u g hp).trans h
theorem Blk.below {B : Nat} (h : Blk w g t cs) (hb : Below B w w') (hg : g < B) : Blk w' g t cs := (hb.block g hg).trans h
end

/-- What is below is as it was: as 'grownBy' says it, of the blocks that were there. -/
theorem Below.grown_ {w w' : World} (h : Below w.heap.size w w') : w.grownBy w' none := ⟨h.os, h.tape, h.output, h.size, fun i hi _ => h.block i hi⟩

theorem own_base {w : World} {base base' : Nat} {e : TypeId} {size n : Nat} {v : Value} {xs : List Value} (h : w.ownsRow base e size v n xs) (hb : base' ≤ base) : w.ownsRow base' e size v n xs := by
  obtain ⟨h1, h2⟩ := h
  refine ⟨h1, ?_⟩
  rcases h2 with h2 | ⟨g, cap, cur, hv, hg, r⟩
  · exact Or.inl h2
  · exact Or.inr ⟨g, cap, cur, hv, Nat.le_trans hb hg, r⟩

theorem int_info : (Try.prog.info? 3).map (fun i => (i.zero, i.size, i.bytes)) = some (some (.int .i64 0), 1, 8) := by kernel_rfl

/-- A list that is filled from its head. -/
def fillL (xs : List Int) (len k : Nat) : List Value := (List.range len).map fun j => .int .i64 (if j < k then xs[j]?.getD 0 else 0)
theorem fillL_length {xs : List Int} {len k : Nat} : (fillL xs len k).length = len := by simp [fillL]
theorem fillL_get {xs : List Int} {len k j : Nat} (hj : j < len) : (fillL xs len k)[j]? = some (.int .i64 (if j < k then xs[j]?.getD 0 else 0)) := by
  unfold fillL
  rw [List.getElem?_map, List.getElem?_range hj]; rfl
theorem fillL_set {xs : List Int} {len k : Nat} (hk : k < len) : (fillL xs len k).set k (.int .i64 (xs[k]?.getD 0)) = fillL xs len (k + 1) := by
  apply List.ext_getElem?
  intro j
  by_cases hj : j < len
  · rw [List.getElem?_set, fillL_get hj, fillL_get hj, fillL_length]
    by_cases e : k = j
    · subst e
      simp [hk]
    · rw [if_neg e]
      have : (j < k) = (j < k + 1) := propext ⟨fun h => by omega, fun h => by omega⟩
      simp only [this]
  · rw [List.getElem?_eq_none (by rw [List.length_set, fillL_length]; omega), List.getElem?_eq_none (by rw [fillL_length]; omega)]
theorem fillL_zero {xs : List Int} {len : Nat} : (madeCells (Value.int .i64 0).cells (len * 1)).toList = fillL xs len 0 := by
  apply List.ext_getElem?
  intro j
  by_cases hj : j < len
  · rw [fillL_get hj]
    simp [madeCells, Value.cells, hj, Nat.mod_one]
  · rw [List.getElem?_eq_none (by simp [madeCells]; omega), List.getElem?_eq_none (by rw [fillL_length]; omega)]
theorem fillL_full {xs : List Int} {len : Nat} (h : xs.length = len) : fillL xs len len = xs.map (.int .i64) := by
  apply List.ext_getElem?
  intro j
  by_cases hj : j < len
  · rw [fillL_get hj, if_pos hj, List.getElem?_map, List.getElem?_eq_getElem (by omega)]; rfl
  · rw [List.getElem?_eq_none (by rw [fillL_length]; omega), List.getElem?_eq_none (by simp; omega)]

/-- What a row owns reads as a list of ints. -/
theorem ints_of_own {w : World} {base g cap n : Nat} {xs : List Int} {T : TypeId} (h : w.ownsRow base T 1 (.slice (some ⟨g, 0, none⟩) n cap) n (xs.map (.int .i64))) (hn : xs.length = n) : Ints w w.heap.size (some ⟨g, 0, none⟩) n xs := by
  refine ⟨hn, fun h0 => ⟨g, 0, rfl, (h.lt g rfl).2, fun k x hx => ?_⟩⟩
  have hk : k < n := by
    rcases Nat.lt_or_ge k n with h1 | h1
    · exact h1
    · rw [List.getElem?_eq_none (by omega)] at hx; cases hx
  rw [Nat.zero_add, h.cellAt k (by omega), List.getElem?_map, hx]; rfl

set_option maxHeartbeats 1000000 in
theorem toIntS_any (A : Option Addr) (len cap : Nat) (xs : List Int) (w : World) (hx : Ints w w.heap.size A len xs) (hl : len ≤ 1048576) :
    Calls Try.prog 30 #[.slice A len cap] w fun e w' => e = .returned (.slice (some ⟨w.heap.size, 0, none⟩) len len) ∧ w'.ownsRow w.heap.size 3 1 (.slice (some ⟨w.heap.size, 0, none⟩) len len) len (xs.map (.int .i64)) ∧ Below w.heap.size w w' := by
  obtain ⟨i0, hi, hz0, hz1, hz2⟩ := info_parts int_info
  have HX := Lib.hid hx
  clear hx
  go_enter Try.func30, Try.ntmps30
  go_wp2_with (at_make; refine wpList_make_full _ rfl (.tmp 6) (.tmp 6) 23 rfl w.heap.size 3 i0 (.int .i64 0) 1 Try.underlying23 hi hz0 hz1 .i64 .i64 _ _ len rfl rfl rfl rfl (by rw [hz2]; omega) (by unfold maxLen; omega) (Nat.le_refl _) ?_; intro w1 hown1 hg1)
  have hb1 : Below w.heap.size w w1 := (Below.refl _ _).grown hg1 (Nat.le_refl _) (by simp)
  have HB := Lib.hid hb1
  have HO := Lib.hid hown1
  clear hb1 hg1 hown1 hz0 hz1 hz2 hi
  go_loopw [4] (fun i wr => ∃ k : Nat, k ≤ len ∧ i = .int .i64 k ∧ wr.ownsRow w.heap.size 3 1 (.slice (some ⟨w.heap.size, 0, none⟩) len len) len (fillL xs len k) ∧ Below w.heap.size w wr) (fun i _ => len - (intOf i).toNat)
  case atStart => exact ⟨0, Nat.zero_le _, rfl, by rw [← fillL_zero]; exact HO.out, HB.out⟩
  case round =>
    obtain ⟨k, hk, rfl, hown, hb⟩ := hrel
    by_cases hlt : k < len
    · obtain ⟨b, off, rfl, hbb, hc⟩ := (HX.out.below hb (Nat.le_refl _)).at_ hlt
      have hce := hown.cellAt k (by omega)
      rw [fillL_get hlt] at hce
      have hfr := hown.frozenAt k
      have OW := Lib.hid hown
      have BB := Lib.hid hb
      clear hown hb
      go_wp2
      go_roundw
      case rel => exact ⟨k + 1, by omega, by go_num, by rw [← fillL_set hlt]; exact (OW.out.stored k _).1, BB.out.setCell (Nat.le_refl _) _⟩
      case measure => simp [intOf]; omega
    · have OW := Lib.hid hown
      have BB := Lib.hid hb
      clear hown hb
      go_wp2
      go_ret
      refine ⟨rfl, ?_, BB.out⟩
      rw [← fillL_full HX.out.1]
      rw [show k = len by omega] at OW
      exact OW.out

set_option maxHeartbeats 2000000 in
theorem toRing_any (n o : Int) (A B : Option Addr) (la ca lb cb : Nat) (X Y : List Int) (w : World) (hX : Ints w w.heap.size A la X) (hY : Ints w w.heap.size B lb Y) (hla : la ≤ 1048576) (hlb : lb ≤ 1048576) :
    Calls Try.prog 38 #[.agg #[.int .i64 n, .int .i64 o, .slice A la ca, .slice B lb cb]] w fun e w' => ∃ g1 g2, e = .returned (.agg #[.int .i64 n, .int .i64 o, .slice (some ⟨g1, 0, none⟩) la la, .slice (some ⟨g2, 0, none⟩) lb lb]) ∧
      w'.ownsRow w.heap.size 3 1 (.slice (some ⟨g1, 0, none⟩) la la) la (X.map (.int .i64)) ∧ w'.ownsRow w.heap.size 3 1 (.slice (some ⟨g2, 0, none⟩) lb lb) lb (Y.map (.int .i64)) ∧ g1 < g2 ∧ Below w.heap.size w w' := by
  have HX := Lib.hid hX
  have HY := Lib.hid hY
  clear hX hY
  go_enter Try.func38, Try.ntmps38
  go_wp2_with (fail)
  obtain ⟨W, hW⟩ : ∃ W, ((w.alloc (.cells #[.int .i64 n, .int .i64 o, .slice A la ca, .slice B lb cb] 45)).alloc (.cells #[.int .i64 0, .int .i64 0, .slice none 0 0, .slice none 0 0] 25)).alloc (.cells #[.int .i64 n, .int .i64 o, .slice none 0 0, .slice none 0 0] 25) = W := ⟨_, rfl⟩
  have k0 : Blk W w.heap.size 45 #[.int .i64 n, .int .i64 o, .slice A la ca, .slice B lb cb] := by
    subst hW; exact ((Blk.new w _ _).alloc _).alloc _
  have k1 : Blk W (w.heap.size + 1) 25 #[.int .i64 0, .int .i64 0, .slice none 0 0, .slice none 0 0] := by
    subst hW; simpa using (Blk.new (w.alloc (.cells #[.int .i64 n, .int .i64 o, .slice A la ca, .slice B lb cb] 45)) 25 #[.int .i64 0, .int .i64 0, .slice none 0 0, .slice none 0 0]).alloc (.cells #[.int .i64 n, .int .i64 o, .slice none 0 0, .slice none 0 0] 25)
  have k2 : Blk W (w.heap.size + 2) 25 #[.int .i64 n, .int .i64 o, .slice none 0 0, .slice none 0 0] := by
    subst hW; simpa using Blk.new ((w.alloc (.cells #[.int .i64 n, .int .i64 o, .slice A la ca, .slice B lb cb] 45)).alloc (.cells #[.int .i64 0, .int .i64 0, .slice none 0 0, .slice none 0 0] 25)) 25 #[.int .i64 n, .int .i64 o, .slice none 0 0, .slice none 0 0]
  have B0 : Below w.heap.size w W := by
    subst hW; exact (((Below.refl _ _).alloc (Nat.le_refl _) _).alloc (by simp) _).alloc (by simp; omega) _
  rw [hW]
  clear hW
  have hs0 := k2.lt
  have K0 := Lib.hid k0
  have K1 := Lib.hid k1
  have K2 := Lib.hid k2
  have BB0 := Lib.hid B0
  clear k0 k1 k2 B0
  refine (toIntS_any A la ca X W (HX.out.next BB0.out) hla).mono ?_
  rintro e1 w1 ⟨rfl, own1, hb1⟩
  have c0 := (K0.out.below hb1 (by omega)).cell 3
  have c1 := (K2.out.below hb1 (by omega)).cell 2
  have f1 := (K2.out.below hb1 (by omega)).frozen 2
  simp at c0 c1
  have hs1 := hb1.size
  have O1 := Lib.hid own1
  have BB1 := Lib.hid hb1
  clear own1 hb1
  go_wp2_with (fail)
  obtain ⟨V, hV⟩ : ∃ V, w1.setCell ⟨w.heap.size + 2, 2, none⟩ (.slice (some ⟨W.heap.size, 0, none⟩) la la) = V := ⟨_, rfl⟩
  have b1 : Below W.heap.size W w1 := BB1.out
  have b2 : Below w.heap.size w V := by
    subst hV; exact (BB0.out.trans (b1.mono (by omega))).setCell (by simp) _
  have q0 : Blk V w.heap.size 45 #[.int .i64 n, .int .i64 o, .slice A la ca, .slice B lb cb] := by
    subst hV; exact (K0.out.below b1 (by omega)).far (by simp) _
  have q1 : Blk V (w.heap.size + 1) 25 #[.int .i64 0, .int .i64 0, .slice none 0 0, .slice none 0 0] := by
    subst hV; exact (K1.out.below b1 (by omega)).far (by simp) _
  have q2 : Blk V (w.heap.size + 2) 25 #[.int .i64 n, .int .i64 o, .slice (some ⟨W.heap.size, 0, none⟩) la la, .slice none 0 0] := by
    subst hV; exact (K2.out.below b1 (by omega)).set_ 2 _
  have hsV : W.heap.size < V.heap.size := by
    subst hV; simp; exact (O1.out.lt _ rfl).2
  have oV : V.ownsRow W.heap.size 3 1 (.slice (some ⟨W.heap.size, 0, none⟩) la la) la (X.map (.int .i64)) := by
    subst hV; exact ownsRow_setCell_below O1.out (by simp; omega) _
  rw [hV]
  clear hV b1 c0 c1 f1 O1
  have K0 := Lib.hid q0
  have K1 := Lib.hid q1
  have K2 := Lib.hid q2
  have O1 := Lib.hid oV
  have BB2 := Lib.hid b2
  clear q0 q1 q2 oV b2
  refine (toIntS_any B lb cb Y V (HY.out.next BB2.out) hlb).mono ?_
  rintro e2 w2 ⟨rfl, own2, hb2⟩
  have c1 := (K2.out.below hb2 (by omega)).cell
  have c10 := c1 0
  have c11 := c1 1
  have c12 := c1 2
  have c13 := c1 3
  have f1 := (K2.out.below hb2 (by omega)).frozen
  have f13 := f1 3
  have d1 := (K1.out.below hb2 (by omega)).cell
  have d10 := d1 0
  have d11 := d1 1
  have d12 := d1 2
  have d13 := d1 3
  have g1 := (K1.out.below hb2 (by omega)).frozen
  have g10 := g1 0
  have g11 := g1 1
  have g12 := g1 2
  have g13 := g1 3
  simp at c10 c11 c12 c13 d10 d11 d12 d13
  clear c1 d1 f1 g1
  have hs2 := hb2.size
  have O2 := Lib.hid own2
  have BB3 := Lib.hid hb2
  have ow1 := O1.out.kept (Go.Proofs.Ytlcpbdbdiahmjaa.Below.grown_ hb2) (by simp [Value.ownBlock])
  have OO1 := Lib.hid ow1
  clear own2 hb2 ow1
  go_wp2
  refine bodyPost_ret (v := .agg #[.int .i64 n, .int .i64 o, .slice (some ⟨W.heap.size, 0, none⟩) la la, .slice (some ⟨V.heap.size, 0, none⟩) lb lb]) ?_ rfl ⟨W.heap.size, V.heap.size, rfl, ?_, ?_, ?_, ?_⟩
  · have F := (((((K1.out.below BB3.out (by omega)).far (p := ⟨w.heap.size + 1 + 1, 3, none⟩) (by simp) (.slice (some ⟨V.heap.size, 0, none⟩) lb lb)).set_ 0 (.int .i64 n)).set_ 1 (.int .i64 o)).set_ 2 (.slice (some ⟨W.heap.size, 0, none⟩) la la)).set_ 3 (.slice (some ⟨V.heap.size, 0, none⟩) lb lb)
    exact results_cell_row Try.results38 _ _ (w.heap.size + 1) 25 _ (0, 0) _ rfl F Try.underlying25 rfl (by kernel_rfl)
  · exact own_base (ownsRow_setCell_below (ownsRow_setCell_below (ownsRow_setCell_below (ownsRow_setCell_below (ownsRow_setCell_below OO1.out (by simp; omega) _) (by simp; omega) _) (by simp; omega) _) (by simp; omega) _) (by simp; omega) _) (by omega)
  · exact own_base (ownsRow_setCell_below (ownsRow_setCell_below (ownsRow_setCell_below (ownsRow_setCell_below (ownsRow_setCell_below O2.out (by simp; omega) _) (by simp; omega) _) (by simp; omega) _) (by simp; omega) _) (by simp; omega) _) (by omega)
  · omega
  · exact (((((BB2.out.trans (BB3.out.mono (by omega))).setCell (by simp; omega) _).setCell (by simp) _).setCell (by simp) _).setCell (by simp) _).setCell (by simp) _

end Go.Proofs.Ytlcpbdbdiahmjaa



/- The contracts of the reading side's Add and Mul. -/
namespace Go.Proofs.Ytlcpbdbdiahmjaa
open Go.RowKit

/-- The bound of l1Elements, of a size. -/
def hiOf (n : Int) : Int := wrap64 (n - 1)
theorem hi_valid {n o : Int} {X Y : List Int} (h : validB n o X Y = true) : hiOf n = n - 1 := by
  unfold validB at h
  rw [Bool.and_eq_true] at h
  obtain ⟨h1, h2, _⟩ := fitsB_iff.1 h.1
  exact wrap_in (by omega) (by omega)
end Go.Proofs.Ytlcpbdbdiahmjaa



/- Plain facts on tables of sums: repeated sums come back to 0 in at most as many steps as there are elements. No program in sight. -/
namespace Go.Proofs.Ytlcpbdbdiahmjaa
open Go.RowKit

/-- So many times an element. -/
def seqT (m : Nat) (S : Nat → Nat) (a : Nat) : Nat → Nat
  | 0 => 0
  | k + 1 => S (seqT m S a k * m + a)

theorem pigeon : ∀ (m : Nat) (f : Nat → Nat), (∀ i, i ≤ m → f i < m) → ∃ i j, i < j ∧ j ≤ m ∧ f i = f j
  | 0, f, h => absurd (h 0 (Nat.le_refl _)) (by omega)
  | m + 1, f, h => by
    by_cases hx : ∃ i, i ≤ m ∧ f i = f (m + 1)
    · obtain ⟨i, hi, e⟩ := hx
      exact ⟨i, m + 1, by omega, Nat.le_refl _, e⟩
    · have hne : ∀ i, i ≤ m → f i ≠ f (m + 1) := fun i hi e => hx ⟨i, hi, e⟩
      have hv := h (m + 1) (Nat.le_refl _)
      obtain ⟨i, j, hij, hj, e⟩ := pigeon m (fun i => if f i > f (m + 1) then f i - 1 else f i) (fun i hi => by
        have h1 := h i (by omega)
        have h2 := hne i hi
        show (if f i > f (m + 1) then f i - 1 else f i) < m
        split <;> omega)
      refine ⟨i, j, hij, by omega, ?_⟩
      have h1 := hne i (by omega)
      have h2 := hne j hj
      have e' : (if f i > f (m + 1) then f i - 1 else f i) = (if f j > f (m + 1) then f j - 1 else f j) := e
      split at e' <;> split at e' <;> omega

section
variable {m : Nat} {S : Nat → Nat}
theorem OpLaw.zero {e a : Nat} {T : Nat → Nat} (h : OpLaw m T e) (ha : a < m) : T (a * m + e) = a := (h a ha).1
theorem OpLaw.comm {e a b : Nat} {T : Nat → Nat} (h : OpLaw m T e) (ha : a < m) (hb : b < m) : T (a * m + b) = T (b * m + a) := ((h a ha).2 b hb).1
theorem OpLaw.assoc {e a b c : Nat} {T : Nat → Nat} (h : OpLaw m T e) (ha : a < m) (hb : b < m) (hc : c < m) : T (T (a * m + b) * m + c) = T (a * m + T (b * m + c)) := ((h a ha).2 b hb).2 c hc

theorem seqT_lt (hS : ∀ k, k < m * m → S k < m) (hm : 1 ≤ m) {a : Nat} (ha : a < m) : ∀ k, seqT m S a k < m
  | 0 => hm
  | k + 1 => hS _ (idx_lt (seqT_lt hS hm ha k) ha)
/-- Sums with one element differ where the others do. -/
theorem sum_inj (h : OpLaw m S 0) (hn : NegLaw m S) {a x y : Nat} (ha : a < m) (hx : x < m) (hy : y < m) (e : S (x * m + a) = S (y * m + a)) : x = y := by
  obtain ⟨c, hc, h0⟩ := rowL_mem.1 (show ((0 : Nat) : Int) ∈ rowL m S a from hn a ha)
  have e1 := h.assoc hx ha hc
  have e2 := h.assoc hy ha hc
  rw [h0, h.zero hx] at e1
  rw [h0, h.zero hy] at e2
  rw [← e1, ← e2, e]
theorem seqT_back (hS : ∀ k, k < m * m → S k < m) (h : OpLaw m S 0) (hn : NegLaw m S) (hm : 1 ≤ m) {a : Nat} (ha : a < m) : ∀ i d, seqT m S a i = seqT m S a (i + d) → seqT m S a d = 0
  | 0, d, e => by rw [Nat.zero_add] at e; exact e.symm
  | i + 1, d, e => by
    refine seqT_back hS h hn hm ha i d ?_
    rw [show i + 1 + d = (i + d) + 1 by omega] at e
    exact sum_inj h hn ha (seqT_lt hS hm ha i) (seqT_lt hS hm ha (i + d)) e

/-- d is the least number of times, from 1 on, that an element has the sum 0. -/
def IsOrd (m : Nat) (S : Nat → Nat) (a d : Nat) : Prop := 1 ≤ d ∧ d ≤ m ∧ seqT m S a d = 0 ∧ ∀ j, 1 ≤ j → j < d → seqT m S a j ≠ 0
theorem least_of {p : Nat → Prop} : ∀ n, p n → ∃ k, k ≤ n ∧ p k ∧ ∀ j, j < k → ¬ p j
  | n, hn => by
    by_cases h : ∃ j, j < n ∧ p j
    · obtain ⟨j, hj, hp⟩ := h
      obtain ⟨k, hk, hpk, hl⟩ := least_of j hp
      exact ⟨k, by omega, hpk, hl⟩
    · exact ⟨n, Nat.le_refl _, hn, fun j hj hp => h ⟨j, hj, hp⟩⟩
  termination_by n => n
theorem ord_exists (hS : ∀ k, k < m * m → S k < m) (h : OpLaw m S 0) (hn : NegLaw m S) (hm : 1 ≤ m) {a : Nat} (ha : a < m) : ∃ d, IsOrd m S a d := by
  obtain ⟨i, j, hij, hj, e⟩ := pigeon m (seqT m S a) (fun i _ => seqT_lt hS hm ha i)
  have h0 := seqT_back hS h hn hm ha i (j - i) (by rw [show i + (j - i) = j by omega]; exact e)
  obtain ⟨k, hk, ⟨hk1, hk0⟩, hl⟩ := least_of (p := fun d => 1 ≤ d ∧ seqT m S a d = 0) (j - i) ⟨by omega, h0⟩
  exact ⟨k, hk1, by omega, hk0, fun j hj1 hj2 e => hl j hj2 ⟨hj1, e⟩⟩
noncomputable def ordN (m : Nat) (S : Nat → Nat) (a : Nat) : Nat := Classical.epsilon (IsOrd m S a)
theorem ordN_spec (hS : ∀ k, k < m * m → S k < m) (h : OpLaw m S 0) (hn : NegLaw m S) (hm : 1 ≤ m) {a : Nat} (ha : a < m) : IsOrd m S a (ordN m S a) := Classical.epsilon_spec (ord_exists hS h hn hm ha)
theorem seqT_one (h : OpLaw m S 0) (hm : 1 ≤ m) {a : Nat} (ha : a < m) : seqT m S a 1 = a := by
  have h1 := h.comm hm ha
  have h2 := h.zero ha
  show S (0 * m + a) = a
  rw [h1, h2]
end

/-- A product of so many factors, by squares. -/
def powF (m : Nat) (P : Nat → Nat) : Nat → Nat → Nat → Nat → Nat
  | 0, r, _, _ => r
  | f + 1, r, s, n => if n = 0 then r else powF m P f (if n % 2 = 1 then P (r * m + s) else r) (P (s * m + s)) (n / 2)
theorem powF_zero {m : Nat} {P : Nat → Nat} {f r s : Nat} : powF m P f r s 0 = r := by
  cases f <;> simp [powF]
theorem powF_odd {m : Nat} {P : Nat → Nat} {f r s n : Nat} (h : n % 2 = 1) : powF m P (f + 1) r s n = powF m P f (P (r * m + s)) (P (s * m + s)) (n / 2) := by
  rw [powF, if_neg (by omega), if_pos h]
theorem powF_even {m : Nat} {P : Nat → Nat} {f r s n : Nat} (h : n % 2 ≠ 1) (h0 : n ≠ 0) : powF m P (f + 1) r s n = powF m P f r (P (s * m + s)) (n / 2) := by
  rw [powF, if_neg h0, if_neg h]

end Go.Proofs.Ytlcpbdbdiahmjaa



/- Plain facts: repeated operations with one element come back; orders in a table. No program in sight. -/
namespace Go.Proofs.Ytlcpbdbdiahmjaa
open Go.RowKit

/-- So many times an element in a table, from z on. -/
def seqZ (m : Nat) (T : Nat → Nat) (z a : Nat) : Nat → Nat
  | 0 => z
  | k + 1 => T (seqZ m T z a k * m + a)
/-- d is the least number of times, from 1 on, that an element gives z. -/
def IsOrdZ (m : Nat) (T : Nat → Nat) (z a d : Nat) : Prop := 1 ≤ d ∧ d ≤ m ∧ seqZ m T z a d = z ∧ ∀ j, 1 ≤ j → j < d → seqZ m T z a j ≠ z
section
variable {m : Nat} {T S P : Nat → Nat} {z e a d : Nat}
theorem seqZ_T : ∀ k, seqZ m S 0 a k = seqT m S a k
  | 0 => rfl
  | k + 1 => by
    show S (seqZ m S 0 a k * m + a) = S (seqT m S a k * m + a)
    rw [seqZ_T k]
theorem isOrd_z (h : IsOrd m S a d) : IsOrdZ m S 0 a d := by
  refine ⟨h.1, h.2.1, ?_, fun j h1 h2 => ?_⟩
  · rw [seqZ_T]; exact h.2.2.1
  · rw [seqZ_T]; exact h.2.2.2 j h1 h2
theorem seqZ_lt (hT : ∀ k, k < m * m → T k < m) (hz : z < m) (ha : a < m) : ∀ k, seqZ m T z a k < m
  | 0 => hz
  | k + 1 => hT _ (idx_lt (seqZ_lt hT hz ha k) ha)
theorem seqZ_one (h : OpLaw m T z) (hz : z < m) (ha : a < m) : seqZ m T z a 1 = a := by
  have h1 := h.comm hz ha
  have h2 := h.zero ha
  show T (z * m + a) = a
  rw [h1, h2]
/-- An element with an inverse. -/
def UnitAt (m : Nat) (P : Nat → Nat) (e a : Nat) : Prop := ∃ c, c < m ∧ P (a * m + c) = e
theorem unit_inj (h : OpLaw m P e) (hu : UnitAt m P e a) (ha : a < m) {x y : Nat} (hx : x < m) (hy : y < m) (he : P (x * m + a) = P (y * m + a)) : x = y := by
  obtain ⟨c, hc, h0⟩ := hu
  have e1 := h.assoc hx ha hc
  have e2 := h.assoc hy ha hc
  rw [h0, h.zero hx] at e1
  rw [h0, h.zero hy] at e2
  rw [← e1, ← e2, he]
theorem seqZ_back (hP : ∀ k, k < m * m → P k < m) (h : OpLaw m P e) (he : e < m) (hu : UnitAt m P e a) (ha : a < m) : ∀ i d, seqZ m P e a i = seqZ m P e a (i + d) → seqZ m P e a d = e
  | 0, d, q => by rw [Nat.zero_add] at q; exact q.symm
  | i + 1, d, q => by
    refine seqZ_back hP h he hu ha i d ?_
    rw [show i + 1 + d = (i + d) + 1 by omega] at q
    exact unit_inj h hu ha (seqZ_lt hP he ha i) (seqZ_lt hP he ha (i + d)) q
theorem ordZ_exists (hP : ∀ k, k < m * m → P k < m) (h : OpLaw m P e) (he : e < m) (hu : UnitAt m P e a) (ha : a < m) : ∃ d, IsOrdZ m P e a d := by
  obtain ⟨i, j, hij, hj, q⟩ := pigeon m (seqZ m P e a) (fun i _ => seqZ_lt hP he ha i)
  have h0 := seqZ_back hP h he hu ha i (j - i) (by rw [show i + (j - i) = j by omega]; exact q)
  obtain ⟨k, hk, ⟨hk1, hk0⟩, hl⟩ := least_of (p := fun d => 1 ≤ d ∧ seqZ m P e a d = e) (j - i) ⟨by omega, h0⟩
  exact ⟨k, hk1, by omega, hk0, fun j hj1 hj2 q => hl j hj2 ⟨hj1, q⟩⟩
noncomputable def ordZ (m : Nat) (P : Nat → Nat) (e a : Nat) : Nat := Classical.epsilon (IsOrdZ m P e a)
theorem ordZ_spec (hP : ∀ k, k < m * m → P k < m) (h : OpLaw m P e) (he : e < m) (hu : UnitAt m P e a) (ha : a < m) : IsOrdZ m P e a (ordZ m P e a) := Classical.epsilon_spec (ordZ_exists hP h he hu ha)

/-- The place of One in a row of products, or -1. -/
def invN (m : Nat) (P : Nat → Nat) (e a : Nat) : Int := idx (rowL m P a) e
theorem inv_unit : 0 ≤ invN m P e a ↔ UnitAt m P e a := by
  unfold invN UnitAt
  rw [idx_nonneg]
  exact rowL_mem
end

end Go.Proofs.Ytlcpbdbdiahmjaa



/- The contracts of sumOrder, multiple, power, and of the reading side's; of l1Neg. -/
namespace Go.Proofs.Ytlcpbdbdiahmjaa
open Go.RowKit

set_option maxHeartbeats 1000000 in
/-- The least number of times that an element gives z in a table. -/
theorem order_any (zi : Int) (z a d : Nat) (hzi : zi = z) (b off len cap : Nat) (T : Nat → Nat) (m e b1 o1 la ca b2 o2 lb cb : Nat) (S P : Nat → Nat) (w : World) (hr : RingAt w m e b1 o1 la ca b2 o2 lb cb S P) (hT : Tab w w.heap.size b off m T) (hlen : len = m * m) (hcap : len ≤ cap) (ha : a < m) (hz : z < m) (hd : IsOrdZ m T z a d) (h1 : seqZ m T z a 1 = a) :
    Calls Try.prog 81 #[.agg #[.int .i64 m, .int .i64 e, .slice (some ⟨b1, o1, none⟩) la ca, .slice (some ⟨b2, o2, none⟩) lb cb], .slice (some ⟨b, off, none⟩) len cap, .int .i64 zi, .int .i64 a] w fun e' w' => e' = .returned (.int .i64 d) ∧ Below w.heap.size w w' := by
  have hm := hr.hm
  have hm' := hr.hm'
  have hlt : ∀ k, seqZ m T z a k < m := seqZ_lt (fun k hk => (hT.2 k hk).2) hz ha
  have hd1 := hd.1
  have hd2 := hd.2.1
  have HD := Lib.hid hd
  have H1 := Lib.hid h1
  have HL := Lib.hid hlt
  have HT := Lib.hid hT
  have HN := Lib.hid hlen
  have HZ := Lib.hid hzi
  clear hr hd h1 hlt hT hlen hzi
  go_enter Try.func81, Try.ntmps81
  go_wp2
  go_loopg [9, 10] m (fun g c s wr => ∃ k : Nat, 1 ≤ k ∧ k ≤ d ∧ m ≤ k + g ∧ c = .int .i64 k ∧ s = .int .i64 (seqZ m T z a k) ∧ Below (w.heap.size + 1) (w.alloc (.cells #[.int .i64 m, .int .i64 e, .slice (some ⟨b1, o1, none⟩) la ca, .slice (some ⟨b2, o2, none⟩) lb cb] 25)) wr)
  case atStart => exact ⟨1, Nat.le_refl _, hd1, by omega, rfl, by rw [H1.out], Below.refl _ _⟩
  case round =>
    obtain ⟨k, hk1, hkd, hg, rfl, rfl, hb⟩ := hrel
    obtain ⟨c0, c1, c2, c3, hs1⟩ := box4 hb
    have X1 := Lib.hid hb
    have T1 := Lib.hid (HT.out.next (below_of_box hb))
    have hl := HL.out k
    clear hb
    by_cases h0 : seqZ m T z a k = z
    · have H0 := Lib.hid h0
      have t0 : (((seqZ m T z a k : Nat) : Int) != zi) = false := by rw [bne_eq_false_iff_eq, HZ.out]; omega
      have hkk : k = d := by
        rcases Nat.lt_or_ge k d with h2 | h2
        · exact absurd h0 (HD.out.2.2.2 k hk1 h2)
        · omega
      have HK := Lib.hid hkk
      clear h0 hkk
      go_wp2
      go_ret
      exact ⟨ret_int (by rw [HK.out]), below_of_box X1.out⟩
    · have t0 : (((seqZ m T z a k : Nat) : Int) != zi) = true := by rw [bne_iff_ne, HZ.out]; omega
      have hkk : k < d := by
        rcases Nat.lt_or_ge k d with h2 | h2
        · exact h2
        · have e : k = d := by omega
          exact absurd (by rw [e]; exact HD.out.2.2.1) h0
      clear h0
      go_wp2_with (go_at_call 108; (with_reducible refine (row_any m _ _ _ _ _ _ _ b off len cap _ _ hm hm' hl HN.out hcap).mono ?_); rintro e1 w1 ⟨rfl, hb1⟩; have hc := (T1.out.next hb1).at_ hl ha; have X2 := Lib.hid (X1.out.trans (hb1.mono (by omega))); clear hb1)
      go_roundg (m - (k + 1))
      case measure => omega
      case rel => exact ⟨k + 1, by omega, by omega, by omega, by go_num, rfl, X2.out⟩

set_option maxHeartbeats 1000000 in
theorem sumOrder_any (a d : Nat) (m e b1 o1 la ca b2 o2 lb cb : Nat) (S P : Nat → Nat) (w : World) (hr : RingAt w m e b1 o1 la ca b2 o2 lb cb S P) (ha : a < m) (hd : IsOrd m S a d) (h1 : seqT m S a 1 = a) :
    Calls Try.prog 77 #[.agg #[.int .i64 m, .int .i64 e, .slice (some ⟨b1, o1, none⟩) la ca, .slice (some ⟨b2, o2, none⟩) lb cb], .int .i64 a] w fun e' w' => e' = .returned (.int .i64 d) ∧ Below w.heap.size w w' := by
  have HD := Lib.hid (isOrd_z hd)
  have H1 := Lib.hid (show seqZ m S 0 a 1 = a by rw [seqZ_T]; exact h1)
  have hm0 : 0 < m := hr.hm
  have b0 : Below w.heap.size w (w.alloc (.cells #[.int .i64 m, .int .i64 e, .slice (some ⟨b1, o1, none⟩) la ca, .slice (some ⟨b2, o2, none⟩) lb cb] 25)) := (Below.refl _ _).alloc (Nat.le_refl _) _
  have R0 := Lib.hid (hr.next b0)
  clear hr hd h1 b0
  go_enter Try.func77, Try.ntmps77
  go_wp2_with (go_at_call 81; (with_reducible refine (order_any 0 0 a d rfl b1 o1 la ca S m e b1 o1 la ca b2 o2 lb cb S P _ R0.out R0.out.ts R0.out.hla R0.out.hca ha hm0 HD.out H1.out).mono ?_); rintro e1 w1 ⟨rfl, hb1⟩)
  go_ret
  exact ⟨rfl, ((Below.refl _ _).alloc (Nat.le_refl _) _).trans (hb1.mono (by simp))⟩

end Go.Proofs.Ytlcpbdbdiahmjaa



/- The contracts of multiple and power, of both sides, and of l1Neg. -/
namespace Go.Proofs.Ytlcpbdbdiahmjaa
open Go.RowKit

set_option maxHeartbeats 1000000 in
theorem power_any (n a : Nat) (m e b1 o1 la ca b2 o2 lb cb : Nat) (S P : Nat → Nat) (w : World) (hr : RingAt w m e b1 o1 la ca b2 o2 lb cb S P) (ha : a < m) (hn2 : n ≤ 9223372036854775807) :
    Calls Try.prog 79 #[.agg #[.int .i64 m, .int .i64 e, .slice (some ⟨b1, o1, none⟩) la ca, .slice (some ⟨b2, o2, none⟩) lb cb], .int .i64 a, .int .i64 n] w fun e' w' => e' = .returned (.int .i64 (powF m P 63 e a n)) ∧ Below w.heap.size w w' := by
  have he := hr.he
  have HR := Lib.hid hr
  have HP := Lib.hid (show ∀ k, k < m * m → P k < m from fun k hk => (hr.tp.2 k hk).2)
  clear hr
  go_enter Try.func79, Try.ntmps79
  go_wp2
  go_loopg [2, 7, 8] 63 (fun g vn vr vs wr => ∃ f r s k : Nat, r < m ∧ s < m ∧ k < 2 ^ f ∧ k ≤ 9223372036854775807 ∧ f ≤ g ∧ vr = .int .i64 r ∧ vs = .int .i64 s ∧ vn = .int .i64 k ∧ powF m P f r s k = powF m P 63 e a n ∧ Below (w.heap.size + 1) (w.alloc (.cells #[.int .i64 m, .int .i64 e, .slice (some ⟨b1, o1, none⟩) la ca, .slice (some ⟨b2, o2, none⟩) lb cb] 25)) wr)
  case atStart => exact ⟨63, e, a, n, he, ha, by omega, hn2, Nat.le_refl _, rfl, rfl, rfl, rfl, Below.refl _ _⟩
  case round =>
    obtain ⟨f, r, s, k, hr1, hs1, hkf, hk2, hg, rfl, rfl, rfl, heq, hb⟩ := hrel
    obtain ⟨c0, c1, c2, c3, hsz⟩ := box4 hb
    have X1 := Lib.hid hb
    have R1 := Lib.hid (HR.out.next (below_of_box hb))
    have HE := Lib.hid heq
    clear hb heq
    have hps := HP.out _ (idx_lt hs1 hs1)
    have hpr := HP.out _ (idx_lt hr1 hs1)
    by_cases h0 : k = 0
    · subst h0
      go_wp2
      go_ret
      exact ⟨ret_int (by rw [← HE.out, powF_zero]), below_of_box X1.out⟩
    · obtain ⟨f', hf'⟩ : ∃ f', f = f' + 1 := ⟨f - 1, by
        rcases f with _ | f
        · simp at hkf; omega
        · rfl⟩
      subst hf'
      have hkf' : k / 2 < 2 ^ f' := by rw [Nat.pow_succ] at hkf; omega
      have HF := Lib.hid hkf'
      have hfl : f' + 1 ≤ gk := by omega
      clear hkf hkf' hg
      have hk0 : 0 < k := by omega
      by_cases ho : k % 2 = 1
      · have to' : (((k : Int) % 2) == 1) = true := by rw [beq_iff_eq]; omega
        have HO := Lib.hid ho
        clear ho
        go_wp2_with (first
          | (go_at_call 78; ((with_reducible refine (product_any r s m e b1 o1 la ca b2 o2 lb cb S P _ R1.out hr1 hs1).mono ?_); rintro e1 w1 ⟨rfl, hb1⟩; obtain ⟨d0, d1, d2, d3, hs2⟩ := box4_next hb1 hsz c0 c1 c2 c3; have X2 := Lib.hid (X1.out.trans (hb1.mono (by omega))); have R2 := Lib.hid (R1.out.next hb1); clear hb1))
          | (go_at_call 78; ((with_reducible refine (product_any s s m e b1 o1 la ca b2 o2 lb cb S P _ R2.out hs1 hs1).mono ?_); rintro e2 w2 ⟨rfl, hb2⟩; have X3 := Lib.hid (X2.out.trans (hb2.mono (by omega))); clear hb2)))
        go_roundg f'
        case measure => omega
        case rel => exact ⟨f', _, _, k / 2, hpr, hps, HF.out, by omega, by omega, rfl, rfl, by go_num, by rw [← HE.out, powF_odd HO.out], X3.out⟩
      · have to' : (((k : Int) % 2) == 1) = false := by rw [beq_eq_false_iff_ne]; omega
        have HO := Lib.hid ho
        clear ho
        go_wp2_with (first
          | (go_at_call 78; ((with_reducible refine (product_any s s m e b1 o1 la ca b2 o2 lb cb S P _ R1.out hs1 hs1).mono ?_); rintro e2 w2 ⟨rfl, hb2⟩; have X3 := Lib.hid (X1.out.trans (hb2.mono (by omega))); clear hb2)))
        go_roundg f'
        case measure => omega
        case rel => exact ⟨f', _, _, k / 2, hr1, hps, HF.out, by omega, by omega, rfl, rfl, by go_num, by rw [← HE.out, powF_even HO.out (by omega)], X3.out⟩

set_option maxHeartbeats 1000000 in
theorem l1Power_any (n a : Nat) (m e b1 o1 la ca b2 o2 lb cb : Nat) (S P : Nat → Nat) (w : World) (hr : RingAt w m e b1 o1 la ca b2 o2 lb cb S P) (ha : a < m) (hn2 : n ≤ 9223372036854775807) :
    Calls Try.prog 127 #[.agg #[.int .i64 m, .int .i64 e, .slice (some ⟨b1, o1, none⟩) la ca, .slice (some ⟨b2, o2, none⟩) lb cb], .int .i64 a, .int .i64 n] w fun e' w' => e' = .returned (.int .i64 (powF m P 63 e a n)) ∧ Below w.heap.size w w' := by
  have he := hr.he
  have HR := Lib.hid hr
  have HP := Lib.hid (show ∀ k, k < m * m → P k < m from fun k hk => (hr.tp.2 k hk).2)
  clear hr
  go_enter Try.func127, Try.ntmps127
  go_wp2
  go_loopg [1, 2, 7] 63 (fun g vs vn vr wr => ∃ f r s k : Nat, r < m ∧ s < m ∧ k < 2 ^ f ∧ k ≤ 9223372036854775807 ∧ f ≤ g ∧ vr = .int .i64 r ∧ vs = .int .i64 s ∧ vn = .int .i64 k ∧ powF m P f r s k = powF m P 63 e a n ∧ Below (w.heap.size + 1) (w.alloc (.cells #[.int .i64 m, .int .i64 e, .slice (some ⟨b1, o1, none⟩) la ca, .slice (some ⟨b2, o2, none⟩) lb cb] 25)) wr)
  case atStart => exact ⟨63, e, a, n, he, ha, by omega, hn2, Nat.le_refl _, rfl, rfl, rfl, rfl, Below.refl _ _⟩
  case round =>
    obtain ⟨f, r, s, k, hr1, hs1, hkf, hk2, hg, rfl, rfl, rfl, heq, hb⟩ := hrel
    obtain ⟨c0, c1, c2, c3, hsz⟩ := box4 hb
    have X1 := Lib.hid hb
    have R1 := Lib.hid (HR.out.next (below_of_box hb))
    have HE := Lib.hid heq
    clear hb heq
    have hps := HP.out _ (idx_lt hs1 hs1)
    have hpr := HP.out _ (idx_lt hr1 hs1)
    by_cases h0 : k = 0
    · subst h0
      go_wp2
      go_ret
      exact ⟨ret_int (by rw [← HE.out, powF_zero]), below_of_box X1.out⟩
    · obtain ⟨f', hf'⟩ : ∃ f', f = f' + 1 := ⟨f - 1, by
        rcases f with _ | f
        · simp at hkf; omega
        · rfl⟩
      subst hf'
      have hkf' : k / 2 < 2 ^ f' := by rw [Nat.pow_succ] at hkf; omega
      have HF := Lib.hid hkf'
      have hfl : f' + 1 ≤ gk := by omega
      clear hkf hkf' hg
      have hk0 : 0 < k := by omega
      by_cases ho : k % 2 = 1
      · have to' : (((k : Int) % 2) == 1) = true := by rw [beq_iff_eq]; omega
        have HO := Lib.hid ho
        clear ho
        go_wp2_with (first
          | (go_at_call 51; ((with_reducible refine (l1Mul_any r s m e b1 o1 la ca b2 o2 lb cb S P _ R1.out hr1 hs1).mono ?_); rintro e1 w1 ⟨rfl, hb1⟩; obtain ⟨d0, d1, d2, d3, hs2⟩ := box4_next hb1 hsz c0 c1 c2 c3; have X2 := Lib.hid (X1.out.trans (hb1.mono (by omega))); have R2 := Lib.hid (R1.out.next hb1); clear hb1))
          | (go_at_call 51; ((with_reducible refine (l1Mul_any s s m e b1 o1 la ca b2 o2 lb cb S P _ R2.out hs1 hs1).mono ?_); rintro e2 w2 ⟨rfl, hb2⟩; have X3 := Lib.hid (X2.out.trans (hb2.mono (by omega))); clear hb2)))
        go_roundg f'
        case measure => omega
        case rel => exact ⟨f', _, _, k / 2, hpr, hps, HF.out, by omega, by omega, rfl, rfl, by go_num, by rw [← HE.out, powF_odd HO.out], X3.out⟩
      · have to' : (((k : Int) % 2) == 1) = false := by rw [beq_eq_false_iff_ne]; omega
        have HO := Lib.hid ho
        clear ho
        go_wp2_with (first
          | (go_at_call 51; ((with_reducible refine (l1Mul_any s s m e b1 o1 la ca b2 o2 lb cb S P _ R1.out hs1 hs1).mono ?_); rintro e2 w2 ⟨rfl, hb2⟩; have X3 := Lib.hid (X1.out.trans (hb2.mono (by omega))); clear hb2)))
        go_roundg f'
        case measure => omega
        case rel => exact ⟨f', _, _, k / 2, hr1, hps, HF.out, by omega, by omega, rfl, rfl, by go_num, by rw [← HE.out, powF_even HO.out (by omega)], X3.out⟩

end Go.Proofs.Ytlcpbdbdiahmjaa



/- The contracts of Neg, Times, Power and CharacteristicOf, of both sides. -/
namespace Go.Proofs.Ytlcpbdbdiahmjaa
open Go.RowKit

noncomputable def ifV (c : Prop) (v : Int) : Int := @ite _ c (Classical.propDecidable c) v (-1)
theorem ifV_yes {c : Prop} {v : Int} (h : c) : ifV c v = v := @if_pos c (Classical.propDecidable c) h _ _ _
theorem ifV_no {c : Prop} {v : Int} (h : ¬ c) : ifV c v = -1 := @if_neg c (Classical.propDecidable c) h _ _ _

noncomputable def powV (n o : Int) (X Y : List Int) (a k : Int) : Int := ifV (validB n o X Y = true ∧ inB n a = true ∧ 0 ≤ k) (powF n.toNat (tabOf Y) 63 o.toNat a.toNat k.toNat : Nat)
theorem powV_no {n o a k : Int} {X Y : List Int} (h : ¬ (validB n o X Y = true ∧ inB n a = true ∧ 0 ≤ k)) : powV n o X Y a k = -1 := ifV_no h
theorem powV_yes {m e a k : Nat} {X Y : List Int} (h : validB m e X Y = true) (ha : inB m a = true) (_ : (0 : Int) ≤ k) : powV m e X Y a k = (powF m (tabOf Y) 63 e a k : Nat) := ifV_yes ⟨h, ha, by omega⟩
set_option maxHeartbeats 2000000 in
theorem pow_any (n o : Int) (A B : Option Addr) (la ca lb cb : Nat) (X Y : List Int) (a : Int) (k : Int) (w : World) (hX : Ints w w.heap.size A la X) (hY : Ints w w.heap.size B lb Y) (hla : la ≤ 9223372036854775807) (hlb : lb ≤ 9223372036854775807) (hca : la ≤ ca) (hcb : lb ≤ cb) (hk1 : k ≤ 9223372036854775807) :
    Calls Try.prog 28 #[.agg #[.int .i64 n, .int .i64 o, .slice A la ca, .slice B lb cb], .int .i64 a, .int .i64 k] w fun e' w' => e' = .returned (.int .i64 (powV n o X Y a k)) ∧ Below w.heap.size w w' := by
  cases hv : validB n o X Y
  · have hz := Lib.hid (powV_no (n := n) (o := o) (X := X) (Y := Y) (a := a) (k := k) (fun g => by have := g.1; rw [hv] at this; cases this))
    obtain ⟨c0, c1, c2, c3, hs⟩ := box4_new w (.int .i64 n) (.int .i64 o) (.slice A la ca) (.slice B lb cb) 25
    obtain ⟨W, hW⟩ : ∃ W, w.alloc (.cells #[.int .i64 n, .int .i64 o, .slice A la ca, .slice B lb cb] 25) = W := ⟨_, rfl⟩
    have HB := Lib.hid (show Below w.heap.size w W by subst hW; exact (Below.refl w.heap.size w).alloc (Nat.le_refl _) _)
    have H0X := Lib.hid (hX.next HB.out)
    have H0Y := Lib.hid (hY.next HB.out)
    rw [hW] at c0 c1 c2 c3 hs
    have HW := Lib.hid hW
    clear hW hX hY
    go_enter Try.func28, Try.ntmps28
    go_wp2_with (fail)
    rw [HW.out]
    have X0 := HB
    go_wp2_with (first
      | (go_at_call 71; ((with_reducible refine (valid_any _ _ _ _ _ _ _ _ X Y _ H0X.out H0Y.out hla hlb hca hcb).mono ?_); rintro e1 w1 ⟨rfl, hb1⟩; obtain ⟨d0, d1, d2, d3, hs1⟩ := box4_next hb1 (by omega) c0 c1 c2 c3; have X1 := Lib.hid (X0.out.trans (hb1.mono (by omega))); clear hb1)))
    go_ret
    exact ⟨ret_int hz.out.symm, X1.out⟩
  · cases ha : inB n a
    · have hz := Lib.hid (powV_no (n := n) (o := o) (X := X) (Y := Y) (a := a) (k := k) (fun g => by have := g.2; simp [ha] at this))
      obtain ⟨c0, c1, c2, c3, hs⟩ := box4_new w (.int .i64 n) (.int .i64 o) (.slice A la ca) (.slice B lb cb) 25
      obtain ⟨W, hW⟩ : ∃ W, w.alloc (.cells #[.int .i64 n, .int .i64 o, .slice A la ca, .slice B lb cb] 25) = W := ⟨_, rfl⟩
      have HB := Lib.hid (show Below w.heap.size w W by subst hW; exact (Below.refl w.heap.size w).alloc (Nat.le_refl _) _)
      have H0X := Lib.hid (hX.next HB.out)
      have H0Y := Lib.hid (hY.next HB.out)
      rw [hW] at c0 c1 c2 c3 hs
      have HW := Lib.hid hW
      clear hW hX hY
      go_enter Try.func28, Try.ntmps28
      go_wp2_with (fail)
      rw [HW.out]
      have X0 := HB
      go_wp2_with (first
        | (go_at_call 71; ((with_reducible refine (valid_any _ _ _ _ _ _ _ _ X Y _ H0X.out H0Y.out hla hlb hca hcb).mono ?_); rintro e1 w1 ⟨rfl, hb1⟩; obtain ⟨d0, d1, d2, d3, hs1⟩ := box4_next hb1 (by omega) c0 c1 c2 c3; have X1 := Lib.hid (X0.out.trans (hb1.mono (by omega))); clear hb1))
        | (go_at_call 72; ((with_reducible refine (has_any _ _ a _ _ _ _ _ _ _).mono ?_); rintro e2 w2 ⟨rfl, hb2⟩; obtain ⟨f0, f1, f2, f3, hs2⟩ := box4_next hb2 (by omega) d0 d1 d2 d3; have X2 := Lib.hid (X1.out.trans (hb2.mono (by omega))); clear hb2)))
      go_ret
      exact ⟨ret_int hz.out.symm, X2.out⟩
    · by_cases hk : k < 0
      · have hz := Lib.hid (powV_no (n := n) (o := o) (X := X) (Y := Y) (a := a) (k := k) (fun g => by have := g.2.2; omega))
        obtain ⟨c0, c1, c2, c3, hs⟩ := box4_new w (.int .i64 n) (.int .i64 o) (.slice A la ca) (.slice B lb cb) 25
        obtain ⟨W, hW⟩ : ∃ W, w.alloc (.cells #[.int .i64 n, .int .i64 o, .slice A la ca, .slice B lb cb] 25) = W := ⟨_, rfl⟩
        have HB := Lib.hid (show Below w.heap.size w W by subst hW; exact (Below.refl w.heap.size w).alloc (Nat.le_refl _) _)
        have H0X := Lib.hid (hX.next HB.out)
        have H0Y := Lib.hid (hY.next HB.out)
        rw [hW] at c0 c1 c2 c3 hs
        have HW := Lib.hid hW
        clear hW hX hY
        go_enter Try.func28, Try.ntmps28
        go_wp2_with (fail)
        rw [HW.out]
        have X0 := HB
        go_wp2_with (first
          | (go_at_call 71; ((with_reducible refine (valid_any _ _ _ _ _ _ _ _ X Y _ H0X.out H0Y.out hla hlb hca hcb).mono ?_); rintro e1 w1 ⟨rfl, hb1⟩; obtain ⟨d0, d1, d2, d3, hs1⟩ := box4_next hb1 (by omega) c0 c1 c2 c3; have X1 := Lib.hid (X0.out.trans (hb1.mono (by omega))); clear hb1))
          | (go_at_call 72; ((with_reducible refine (has_any _ _ a _ _ _ _ _ _ _).mono ?_); rintro e2 w2 ⟨rfl, hb2⟩; obtain ⟨f0, f1, f2, f3, hs2⟩ := box4_next hb2 (by omega) d0 d1 d2 d3; have X2 := Lib.hid (X1.out.trans (hb2.mono (by omega))); clear hb2)))
        go_ret
        exact ⟨ret_int hz.out.symm, X2.out⟩
      · obtain ⟨m, e, b1, o1, b2, o2, rfl, rfl, rfl, rfl, hr, ⟨hop, _, hneg, _⟩, _, _, _, _⟩ := valid_data hv hX hY hca hcb
        have ha' := of_decide_eq_true ha
        obtain ⟨a, rfl⟩ := Int.eq_ofNat_of_zero_le ha'.1
        have la' : a < m := by omega
        obtain ⟨k, rfl⟩ := Int.eq_ofNat_of_zero_le (show 0 ≤ k by omega)
        have HR := Lib.hid hr
        clear hr hop hneg
        have hz := Lib.hid (powV_yes (k := k) (hv) (ha) (by omega))
        obtain ⟨c0, c1, c2, c3, hs⟩ := box4_new w (.int .i64 m) (.int .i64 e) (.slice (some ⟨b1, o1, none⟩) la ca) (.slice (some ⟨b2, o2, none⟩) lb cb) 25
        obtain ⟨W, hW⟩ : ∃ W, w.alloc (.cells #[.int .i64 m, .int .i64 e, .slice (some ⟨b1, o1, none⟩) la ca, .slice (some ⟨b2, o2, none⟩) lb cb] 25) = W := ⟨_, rfl⟩
        have HB := Lib.hid (show Below w.heap.size w W by subst hW; exact (Below.refl w.heap.size w).alloc (Nat.le_refl _) _)
        have H0X := Lib.hid (hX.next HB.out)
        have H0Y := Lib.hid (hY.next HB.out)
        rw [hW] at c0 c1 c2 c3 hs
        have HW := Lib.hid hW
        clear hW hX hY
        have R0 := Lib.hid (HR.out.next HB.out)
        go_enter Try.func28, Try.ntmps28
        go_wp2_with (fail)
        rw [HW.out]
        have X0 := HB
        go_wp2_with (first
          | (go_at_call 71; ((with_reducible refine (valid_any _ _ _ _ _ _ _ _ X Y _ H0X.out H0Y.out hla hlb hca hcb).mono ?_); rintro e1 w1 ⟨rfl, hb1⟩; obtain ⟨d0, d1, d2, d3, hs1⟩ := box4_next hb1 (by omega) c0 c1 c2 c3; have X1 := Lib.hid (X0.out.trans (hb1.mono (by omega))); have R1 := Lib.hid (R0.out.next hb1); clear hb1))
          | (go_at_call 72; ((with_reducible refine (has_any _ _ a _ _ _ _ _ _ _).mono ?_); rintro e2 w2 ⟨rfl, hb2⟩; obtain ⟨f0, f1, f2, f3, hs2⟩ := box4_next hb2 (by omega) d0 d1 d2 d3; have X2 := Lib.hid (X1.out.trans (hb2.mono (by omega))); have R2 := Lib.hid (R1.out.next hb2); clear hb2))
          | (go_at_call 79; ((with_reducible refine (power_any k a m e b1 o1 la ca b2 o2 lb cb (tabOf X) (tabOf Y) _ R2.out la' (by omega)).mono ?_); rintro e3 w3 ⟨rfl, hb3⟩; obtain ⟨g0, g1, g2, g3, hs3⟩ := box4_next hb3 (by omega) f0 f1 f2 f3; have X3 := Lib.hid (X2.out.trans (hb3.mono (by omega))); clear hb3)))
        go_ret
        exact ⟨ret_int hz.out.symm, X3.out⟩
end Go.Proofs.Ytlcpbdbdiahmjaa



/- Lists that are the same: the library's Equal, l1Same; SameRing of both sides. -/
namespace Go.Proofs.Ytlcpbdbdiahmjaa
open Go.RowKit

theorem Blk.next {w w' : World} {g : Nat} {t : TypeId} {cs : Array Value} (h : Blk w g t cs) (hb : Below w.heap.size w w') : Blk w' g t cs := h.below hb h.lt
theorem blk4 {w : World} {g : Nat} {t : TypeId} {a b c d : Value} (h : Blk w g t #[a, b, c, d]) : w.cell? ⟨g, 0, none⟩ = some a ∧ w.cell? ⟨g, 1, none⟩ = some b ∧ w.cell? ⟨g, 2, none⟩ = some c ∧ w.cell? ⟨g, 3, none⟩ = some d :=
  ⟨h.cell 0, h.cell 1, h.cell 2, h.cell 3⟩
theorem below_step {w w1 w2 : World} (h : Below w.heap.size w w1) (hb : Below w1.heap.size w1 w2) : Below w.heap.size w w2 := h.trans (hb.mono h.size)

def eqL (xs ys : List Int) : Bool := decide (xs = ys)
def AlikeTo (xs ys : List Int) (k : Nat) : Prop := ∀ j, j < k → xs[j]?.getD 0 = ys[j]?.getD 0
theorem eqL_true {xs ys : List Int} (hl : xs.length = ys.length) (h : AlikeTo xs ys xs.length) : eqL xs ys = true := by
  refine decide_eq_true (List.ext_getElem hl fun j h1 h2 => ?_)
  have := h j h1
  rw [List.getElem?_eq_getElem h1, List.getElem?_eq_getElem h2] at this
  exact this
theorem eqL_false {xs ys : List Int} {k : Nat} (h : ¬ xs[k]?.getD 0 = ys[k]?.getD 0) : eqL xs ys = false := decide_eq_false fun e => h (by rw [e])
theorem eqL_len {xs ys : List Int} (h : xs.length ≠ ys.length) : eqL xs ys = false := decide_eq_false fun e => h (by rw [e])

attribute [local go_sem] eq_shape

end Go.Proofs.Ytlcpbdbdiahmjaa



/- The laws' helpers: sizes; two rings that read the same. -/
namespace Go.Proofs.Ytlcpbdbdiahmjaa
open Go.RowKit

def szI (l : Int) (n : Nat) : Int := if (n : Int) ≤ l then l - n else -1
theorem szI_yes {l : Int} {n : Nat} (h : (n : Int) ≤ l) : szI l n = l - n := if_pos h
theorem szI_no {l : Int} {n : Nat} (h : ¬ (n : Int) ≤ l) : szI l n = -1 := if_neg h
theorem szIntS_any (A : Option Addr) (n c : Nat) (l : Int) (w : World) (h0 : 0 ≤ l) (h1 : l ≤ 1048576) (hn : n ≤ 9223372036854775807) :
    Calls Try.prog 84 #[.slice A n c, .int .i64 l] w fun e w' => e = .returned (.int .i64 (szI l n)) ∧ w = w' := by
  by_cases h : (n : Int) ≤ l
  · rw [szI_yes h]
    go_enter Try.func84, Try.ntmps84
    go_wp2
    go_ret
    exact ⟨rfl, rfl⟩
  · rw [szI_no h]
    go_enter Try.func84, Try.ntmps84
    go_wp2
    go_ret
    exact ⟨rfl, rfl⟩

def szR (l : Int) (la lb : Nat) : Int := if (la : Int) + lb ≤ l then l - la - lb else -1
theorem szRing_any (n o : Int) (A B : Option Addr) (la ca lb cb : Nat) (l : Int) (w : World) (h0 : 0 ≤ l) (h1 : l ≤ 1048576) (hla : la ≤ 9223372036854775807) (hlb : lb ≤ 9223372036854775807) :
    Calls Try.prog 36 #[.agg #[.int .i64 n, .int .i64 o, .slice A la ca, .slice B lb cb], .int .i64 l] w fun e w' => e = .returned (.int .i64 (szR l la lb)) ∧ Below w.heap.size w w' := by
  by_cases ha : (la : Int) ≤ l
  · have e1 := Lib.hid (szI_yes ha)
    by_cases hb : (lb : Int) ≤ l - la
    · have e2 := Lib.hid (szI_yes hb)
      have e3 := Lib.hid (show szR l la lb = l - la - lb from if_pos (by omega))
      go_enter Try.func36, Try.ntmps36
      go_wp2_with (fail)
      refine (szIntS_any A la ca l _ h0 h1 hla).mono ?_
      rintro e w1 ⟨rfl, rfl⟩
      rw [e1.out]
      go_wp2_with (fail)
      refine (szIntS_any B lb cb (l - la) _ (by omega) (by omega) hlb).mono ?_
      rintro e w1 ⟨rfl, rfl⟩
      rw [e2.out]
      go_wp2
      go_ret
      exact ⟨ret_int e3.out.symm, (Below.refl _ _).alloc (Nat.le_refl _) _⟩
    · have e2 := Lib.hid (szI_no hb)
      have e3 := Lib.hid (show szR l la lb = -1 from if_neg (by omega))
      go_enter Try.func36, Try.ntmps36
      go_wp2_with (fail)
      refine (szIntS_any A la ca l _ h0 h1 hla).mono ?_
      rintro e w1 ⟨rfl, rfl⟩
      rw [e1.out]
      go_wp2_with (fail)
      refine (szIntS_any B lb cb (l - la) _ (by omega) (by omega) hlb).mono ?_
      rintro e w1 ⟨rfl, rfl⟩
      rw [e2.out]
      go_wp2
      go_ret
      exact ⟨ret_int e3.out.symm, (Below.refl _ _).alloc (Nat.le_refl _) _⟩
  · have e1 := Lib.hid (szI_no ha)
    have e3 := Lib.hid (show szR l la lb = -1 from if_neg (by omega))
    go_enter Try.func36, Try.ntmps36
    go_wp2_with (fail)
    refine (szIntS_any A la ca l _ h0 h1 hla).mono ?_
    rintro e w1 ⟨rfl, rfl⟩
    rw [e1.out]
    go_wp2
    go_ret
    exact ⟨ret_int e3.out.symm, (Below.refl _ _).alloc (Nat.le_refl _) _⟩

set_option maxHeartbeats 1000000 in
theorem eqIntS_same (A B : Option Addr) (n ca cb : Nat) (xs : List Int) (w : World) (C D : Nat) (hA : Ints w C A n xs) (hB : Ints w D B n xs) (hn : n ≤ 9223372036854775807) :
    Calls Try.prog 31 #[.slice A n ca, .slice B n cb] w fun e w' => e = .returned (.bool true) ∧ Below w.heap.size w w' := by
  have HA := Lib.hid hA
  have HB := Lib.hid hB
  clear hA hB
  go_enter Try.func31, Try.ntmps31
  go_wp2
  go_loopw [5] (fun i wr => ∃ k : Nat, k ≤ n ∧ i = .int .i64 k ∧ ∃ d : Nat, wr = w.drewN d) (fun i _ => n - (intOf i).toNat)
  case atStart => exact ⟨0, Nat.zero_le _, rfl, 0, rfl⟩
  case round =>
    obtain ⟨k, hk, rfl, d, rfl⟩ := hrel
    by_cases hlt : k < n
    · obtain ⟨b1, o1, rfl, _, hc1⟩ := HA.out.at_ hlt
      obtain ⟨b2, o2, rfl, _, hc2⟩ := HB.out.at_ hlt
      go_wp2
      go_quiet (fail)
      go_wp2
      go_roundw
      case rel => exact ⟨k + 1, by omega, by go_num, _, rfl⟩
      case measure => simp [intOf]; omega
    · go_wp2
      go_ret
      exact ⟨rfl, below_drewN (Below.refl _ _) _⟩

set_option maxHeartbeats 1000000 in
theorem eqRing_same (n o : Int) (A B A' B' : Option Addr) (la ca lb cb ca' cb' : Nat) (X Y : List Int) (w : World) (hA : Ints w w.heap.size A la X) (hB : Ints w w.heap.size B lb Y) (hA' : Ints w w.heap.size A' la X) (hB' : Ints w w.heap.size B' lb Y)
    (hla : la ≤ 9223372036854775807) (hlb : lb ≤ 9223372036854775807) :
    Calls Try.prog 40 #[.agg #[.int .i64 n, .int .i64 o, .slice A la ca, .slice B lb cb], .agg #[.int .i64 n, .int .i64 o, .slice A' la ca', .slice B' lb cb']] w fun e w' => e = .returned (.bool true) ∧ Below w.heap.size w w' := by
  have HB0 : Below w.heap.size w ((w.alloc (.cells #[.int .i64 n, .int .i64 o, .slice A la ca, .slice B lb cb] 25)).alloc (.cells #[.int .i64 n, .int .i64 o, .slice A' la ca', .slice B' lb cb'] 25)) := ((Below.refl _ _).alloc (Nat.le_refl _) _).alloc (by simp) _
  have H1 := Lib.hid (hA.next HB0)
  have H2 := Lib.hid (hB.next HB0)
  have H3 := Lib.hid (hA'.next HB0)
  have H4 := Lib.hid (hB'.next HB0)
  clear hA hB hA' hB' HB0
  go_enter Try.func40, Try.ntmps40
  go_wp2_with (fail)
  obtain ⟨W, hW⟩ : ∃ W, (w.alloc (.cells #[.int .i64 n, .int .i64 o, .slice A la ca, .slice B lb cb] 25)).alloc (.cells #[.int .i64 n, .int .i64 o, .slice A' la ca', .slice B' lb cb'] 25) = W := ⟨_, rfl⟩
  have k0 : Blk W w.heap.size 25 #[.int .i64 n, .int .i64 o, .slice A la ca, .slice B lb cb] := by
    subst hW; exact (Blk.new w _ _).alloc _
  have k1 : Blk W (w.heap.size + 1) 25 #[.int .i64 n, .int .i64 o, .slice A' la ca', .slice B' lb cb'] := by
    subst hW; simpa using Blk.new (w.alloc (.cells #[.int .i64 n, .int .i64 o, .slice A la ca, .slice B lb cb] 25)) 25 #[.int .i64 n, .int .i64 o, .slice A' la ca', .slice B' lb cb']
  have b0 : Below w.heap.size w W := by
    subst hW; exact ((Below.refl _ _).alloc (Nat.le_refl _) _).alloc (by simp) _
  rw [hW] at H1 H2 H3 H4 ⊢
  clear hW
  have hs0 := k1.lt
  have K0 := Lib.hid k0
  have K1 := Lib.hid k1
  have B0 := Lib.hid b0
  clear k0 k1 b0
  refine (eqIntS_same A A' la ca ca' X W _ _ H1.out H3.out hla).mono ?_
  rintro e w1 ⟨rfl, hb1⟩
  have c0 := (K0.out.below hb1 (by omega)).cell 3
  have c1 := (K1.out.below hb1 (by omega)).cell 3
  simp at c0 c1
  have hs1 := hb1.size
  have B1 := Lib.hid hb1
  clear hb1
  go_wp2_with (fail)
  refine (eqIntS_same B B' lb cb cb' Y w1 _ _ (H2.out.next B1.out) (H4.out.next B1.out) hlb).mono ?_
  rintro e w2 ⟨rfl, hb2⟩
  have B2 := Lib.hid hb2
  clear hb2
  go_wp2
  go_ret
  exact ⟨rfl, B0.out.trans ((B1.out.mono (by omega)).trans (B2.out.mono (by omega)))⟩

end Go.Proofs.Ytlcpbdbdiahmjaa



/- The walk of the law FnExactRingValid. -/
namespace Go.Proofs.Ytlcpbdbdiahmjaa
open Go.RowKit

theorem szR_yes {l : Int} {la lb : Nat} (h : (la : Int) + lb ≤ l) : szR l la lb = l - la - lb := if_pos h
theorem szR_no {l : Int} {la lb : Nat} (h : ¬ (la : Int) + lb ≤ l) : szR l la lb = -1 := if_neg h

end Go.Proofs.Ytlcpbdbdiahmjaa



/- Memory that a call hands out: marked and held. -/
namespace Go.Proofs.Ytlcpbdbdiahmjaa
open Go.RowKit

/-- A slice of ints whose cells lie from block D on and may be written. -/
def Own (w : World) (D : Nat) (A : Option Addr) (n : Nat) (xs : List Int) : Prop :=
  xs.length = n ∧ (0 < n → ∃ g off, A = some ⟨g, off, none⟩ ∧ D ≤ g ∧ g < w.heap.size ∧ ∀ k, k < n → w.cell? ⟨g, off + k, none⟩ = some (.int .i64 (xs[k]?.getD 0)) ∧ w.frozen? ⟨g, off + k, none⟩ = false)
/-- A place lies in a slice. -/
def InS (A : Option Addr) (n : Nat) (p : Addr) : Prop := ∃ g off k, A = some ⟨g, off, none⟩ ∧ k < n ∧ p = ⟨g, off + k, none⟩
/-- Two slices share no place. -/
def Apart (A : Option Addr) (n : Nat) (B : Option Addr) (m : Nat) : Prop := ∀ p, InS A n p → ¬ InS B m p
/-- Nothing has turned but the places of a slice. -/
def ButIn (w w' : World) (A : Option Addr) (n : Nat) : Prop := w'.heap.size = w.heap.size ∧ ∀ p, ¬ InS A n p → w'.cell? p = w.cell? p ∧ w'.frozen? p = w.frozen? p

theorem Own.ints {w : World} {D n : Nat} {A : Option Addr} {xs : List Int} (h : Own w D A n xs) : Ints w w.heap.size A n xs :=
  ⟨h.1, fun hn => by
    obtain ⟨g, off, e, _, hg, hc⟩ := h.2 hn
    refine ⟨g, off, e, hg, fun k x hx => ?_⟩
    have hk : k < n := by
      rcases Nat.lt_or_ge k n with h1 | h1
      · exact h1
      · rw [List.getElem?_eq_none (by have := h.1; omega)] at hx; cases hx
    rw [(hc k hk).1, hx]; rfl⟩
theorem Own.next {w w' : World} {D n : Nat} {A : Option Addr} {xs : List Int} (h : Own w D A n xs) (hb : Below w.heap.size w w') : Own w' D A n xs :=
  ⟨h.1, fun hn => by
    obtain ⟨g, off, e, hD, hg, hc⟩ := h.2 hn
    exact ⟨g, off, e, hD, Nat.lt_of_lt_of_le hg hb.size, fun k hk => ⟨(hb.cell hg).trans (hc k hk).1, (hb.frozen hg).trans (hc k hk).2⟩⟩⟩
theorem Own.kept {w w' : World} {D n m : Nat} {A B : Option Addr} {xs : List Int} (h : Own w D A n xs) (hb : ButIn w w' B m) (ha : Apart A n B m) : Own w' D A n xs :=
  ⟨h.1, fun hn => by
    obtain ⟨g, off, e, hD, hg, hc⟩ := h.2 hn
    refine ⟨g, off, e, hD, by rw [hb.1]; exact hg, fun k hk => ?_⟩
    have := hb.2 ⟨g, off + k, none⟩ (ha _ ⟨g, off, k, e, hk, rfl⟩)
    exact ⟨this.1.trans (hc k hk).1, this.2.trans (hc k hk).2⟩⟩
theorem own_of_row {w : World} {base g cap n : Nat} {xs : List Int} {T : TypeId} (h : w.ownsRow base T 1 (.slice (some ⟨g, 0, none⟩) n cap) n (xs.map (.int .i64))) (hn : xs.length = n) : Own w base (some ⟨g, 0, none⟩) n xs :=
  ⟨hn, fun h0 => ⟨g, 0, rfl, (h.lt g rfl).1, (h.lt g rfl).2, fun k hk => by
    refine ⟨?_, by rw [Nat.zero_add]; exact h.frozenAt k⟩
    rw [Nat.zero_add, h.cellAt k (by omega), List.getElem?_map, List.getElem?_eq_getElem (by omega)]; rfl⟩⟩
theorem Own.nil {w : World} {D : Nat} {A : Option Addr} : Own w D A 0 [] := ⟨rfl, fun h => absurd h (by omega)⟩

/-- A list whose head is marked with running numbers. -/
def markL (xs : List Int) (n : Nat) (b : Int) (k : Nat) : List Int := (List.range n).map fun j => if j < k then b + j else xs[j]?.getD 0
theorem markL_len {xs : List Int} {n : Nat} {b : Int} {k : Nat} : (markL xs n b k).length = n := by simp [markL]
theorem markL_get {xs : List Int} {n : Nat} {b : Int} {k j : Nat} (hj : j < n) : (markL xs n b k)[j]?.getD 0 = if j < k then b + j else xs[j]?.getD 0 := by
  unfold markL
  rw [List.getElem?_map, List.getElem?_range hj]; rfl

theorem mark_start {w : World} {D n : Nat} {A : Option Addr} {xs : List Int} {b : Int} (h : Own w D A n xs) : Own w D A n (markL xs n b 0) :=
  ⟨markL_len, fun hn => by
    obtain ⟨g, off, e, hD, hg, hc⟩ := h.2 hn
    exact ⟨g, off, e, hD, hg, fun k hk => by rw [markL_get hk, if_neg (by omega)]; exact hc k hk⟩⟩
theorem mark_step {w : World} {D n g off k : Nat} {xs : List Int} {b : Int} (h : Own w D (some ⟨g, off, none⟩) n (markL xs n b k)) (hk : k < n) :
    Own (w.setCell ⟨g, off + k, none⟩ (.int .i64 (b + k))) D (some ⟨g, off, none⟩) n (markL xs n b (k + 1)) :=
  ⟨markL_len, fun hn => by
    obtain ⟨g', off', e, hD, hg, hc⟩ := h.2 hn
    simp only [Option.some.injEq, Addr.mk.injEq, and_true] at e
    obtain ⟨rfl, rfl⟩ := e
    refine ⟨g, off, rfl, hD, by simpa using hg, fun j hj => ⟨?_, (World.frozen?_setCell _ _ _ _).trans (hc j hj).2⟩⟩
    rw [markL_get hj]
    by_cases e : j = k
    · subst e
      rw [if_pos (by omega)]
      exact World.cell?_setCell_same _ _ _ (hc j hj).1
    · rw [World.cell?_setCell_other _ _ _ _ (fun h => e (by injection h with _ h1 _; omega)), (hc j hj).1, markL_get hj]
      by_cases h1 : j < k
      · rw [if_pos h1, if_pos (by omega)]
      · rw [if_neg h1, if_neg (by omega)]⟩
theorem but_step {w w' : World} {n g off k : Nat} {u : Value} (h : ButIn w w' (some ⟨g, off, none⟩) n) (hk : k < n) : ButIn w (w'.setCell ⟨g, off + k, none⟩ u) (some ⟨g, off, none⟩) n :=
  ⟨by simpa using h.1, fun p hp => by
    have hne : (⟨g, off + k, none⟩ : Addr) ≠ p := fun e => hp ⟨g, off, k, rfl, hk, e.symm⟩
    exact ⟨(World.cell?_setCell_other _ _ _ _ hne).trans (h.2 p hp).1, (World.frozen?_setCell _ _ _ _).trans (h.2 p hp).2⟩⟩

set_option maxHeartbeats 1000000 in
theorem markIntS_any (A : Option Addr) (n cap : Nat) (xs : List Int) (b : Int) (w : World) (D : Nat) (hA : Own w D A n xs) (hn : n ≤ 1048576) (h0 : 0 ≤ b) (h1 : b ≤ 4194304) :
    Calls Try.prog 32 #[.slice A n cap, .int .i64 b] w fun e w' => e = .returned (.int .i64 (b + n)) ∧ Own w' D A n (markL xs n b n) ∧ ButIn w w' A n ∧ Below D w w' := by
  have HA := Lib.hid hA
  clear hA
  go_enter Try.func32, Try.ntmps32
  go_wp2
  go_loopw [1, 5] (fun s i wr => ∃ k : Nat, k ≤ n ∧ s = .int .i64 (b + k) ∧ i = .int .i64 k ∧ Own wr D A n (markL xs n b k) ∧ ButIn w wr A n ∧ Below D w wr) (fun _ i _ => n - (intOf i).toNat)
  case atStart => exact ⟨0, Nat.zero_le _, by simp, rfl, mark_start HA.out, ⟨rfl, fun p _ => ⟨rfl, rfl⟩⟩, Below.refl _ _⟩
  case round =>
    obtain ⟨k, hk, rfl, rfl, hown, hbut, hbel⟩ := hrel
    have BU := Lib.hid hbut
    have BE := Lib.hid hbel
    have OW := Lib.hid hown
    clear hbut hbel hown
    by_cases hlt : k < n
    · obtain ⟨g, off, rfl, hD, hg, hc⟩ := OW.out.2 (by omega)
      obtain ⟨hck, hfk⟩ := hc k hlt
      clear hc
      go_wp2
      go_roundw
      case rel => exact ⟨k + 1, by omega, by go_num, by go_num, mark_step OW.out hlt, but_step BU.out hlt, BE.out.setCell hD _⟩
      case measure => simp [intOf]; omega
    · have hkn : k = n := by omega
      subst hkn
      go_wp2
      go_ret
      exact ⟨rfl, OW.out, BU.out, BE.out⟩

/-- A slice that holds its marks. -/
def HeldTo (xs : List Int) (n : Nat) (b : Int) : Prop := ∀ j, j < n → xs[j]?.getD 0 = b + j
theorem held_mark {xs : List Int} {n : Nat} {b : Int} : HeldTo (markL xs n b n) n b := fun j hj => by rw [markL_get hj, if_pos hj]

set_option maxHeartbeats 1000000 in
theorem heldIntS_any (A : Option Addr) (n cap : Nat) (xs : List Int) (b : Int) (w : World) (D : Nat) (hA : Ints w D A n xs) (hh : HeldTo xs n b) (hn : n ≤ 1048576) (h0 : 0 ≤ b) (h1 : b ≤ 4194304) :
    Calls Try.prog 33 #[.slice A n cap, .int .i64 b] w fun e w' => e = .returned (.int .i64 (b + n)) ∧ w = w' := by
  have HA := Lib.hid hA
  have HH := Lib.hid hh
  clear hA hh
  go_enter Try.func33, Try.ntmps33
  go_wp2
  go_loop [1, 5] (fun s i => ∃ k : Nat, k ≤ n ∧ s = .int .i64 (b + k) ∧ i = .int .i64 k) (fun _ i => n - (intOf i).toNat)
  case atStart => exact ⟨0, Nat.zero_le _, by simp, rfl⟩
  case round =>
    obtain ⟨k, hk, rfl, rfl⟩ := hrel
    by_cases hlt : k < n
    · obtain ⟨g, off, rfl, hg, hc⟩ := HA.out.at_ hlt
      rw [HH.out k hlt] at hc
      have tt : (b + (k : Int) != b + (k : Int)) = false := by rw [bne_eq_false_iff_eq]
      go_wp2
      go_round
      case rel => exact ⟨k + 1, by omega, by go_num, by go_num⟩
      case measure => simp [intOf]; omega
    · have hkn : k = n := by omega
      subst hkn
      go_wp2
      go_ret
      exact ⟨rfl, rfl⟩

theorem own_not_new {w : World} {D n : Nat} {A : Option Addr} {xs : List Int} (h : Own w D A n xs) : ∀ k, ¬ InS A n ⟨w.heap.size, k, none⟩ := by
  rintro k ⟨g, off, j, e, hj, hp⟩
  obtain ⟨g', off', e', _, hg, _⟩ := h.2 (by omega)
  rw [e] at e'
  simp only [Option.some.injEq, Addr.mk.injEq, and_true] at e' hp
  omega

set_option maxHeartbeats 2000000 in
theorem markRing_any (n o : Int) (A B : Option Addr) (la ca lb cb : Nat) (X Y : List Int) (b : Int) (w : World) (D : Nat) (hX : Own w D A la X) (hY : Own w D B lb Y) (ha : Apart A la B lb) (hD : D ≤ w.heap.size) (hla : la ≤ 1048576) (hlb : lb ≤ 1048576) (h0 : 0 ≤ b) (h1 : b ≤ 1048576) :
    Calls Try.prog 41 #[.agg #[.int .i64 n, .int .i64 o, .slice A la ca, .slice B lb cb], .int .i64 b] w fun e w' => e = .returned (.int .i64 (b + la + lb)) ∧ Own w' D A la (markL X la b la) ∧ Own w' D B lb (markL Y lb (b + la) lb) ∧
      (∀ p : Addr, p.block < w.heap.size → ¬ InS A la p → ¬ InS B lb p → w'.cell? p = w.cell? p ∧ w'.frozen? p = w.frozen? p) ∧ Below D w w' := by
  have b0 : Below w.heap.size w (w.alloc (.cells #[.int .i64 n, .int .i64 o, .slice A la ca, .slice B lb cb] 25)) := (Below.refl _ _).alloc (Nat.le_refl _) _
  have OX := Lib.hid (hX.next b0)
  have OY := Lib.hid (hY.next b0)
  have AP := Lib.hid ha
  have AQ := Lib.hid (show Apart B lb A la from fun p h1 h2 => ha p h2 h1)
  have hbx := Lib.hid (Blk.new w 25 #[.int .i64 n, .int .i64 o, .slice A la ca, .slice B lb cb])
  have nx := Lib.hid (show ∀ k, ¬ InS A la ⟨w.heap.size, k, none⟩ from own_not_new hX)
  have ny := Lib.hid (show ∀ k, ¬ InS B lb ⟨w.heap.size, k, none⟩ from own_not_new hY)
  have B0 := Lib.hid b0
  clear hX hY ha b0
  go_enter Try.func41, Try.ntmps41
  go_wp2_with (fail)
  obtain ⟨W, hW⟩ : ∃ W, w.alloc (.cells #[.int .i64 n, .int .i64 o, .slice A la ca, .slice B lb cb] 25) = W := ⟨_, rfl⟩
  rw [hW] at OX OY hbx B0 ⊢
  have hsz : W.heap.size = w.heap.size + 1 := by subst hW; simp
  have HS := Lib.hid hsz
  clear hW hsz
  refine (markIntS_any A la ca X b W D OX.out hla h0 (by omega)).mono ?_
  rintro e1 w1 ⟨rfl, o1, bi1, bl1⟩
  have c3 := (bi1.2 ⟨w.heap.size, 3, none⟩ (nx.out 3)).1.trans (hbx.out.cell 3)
  have OX1 := Lib.hid o1
  have OY1 := Lib.hid (OY.out.kept bi1 AQ.out)
  have BI1 := Lib.hid bi1
  have BL1 := Lib.hid bl1
  simp at c3
  clear o1 bi1 bl1
  go_wp2_with (fail)
  refine (markIntS_any B lb cb Y (b + la) w1 D OY1.out hlb (by omega) (by omega)).mono ?_
  rintro e2 w2 ⟨rfl, o2, bi2, bl2⟩
  have OX2 := Lib.hid (OX1.out.kept bi2 AP.out)
  have OY2 := Lib.hid o2
  have BI2 := Lib.hid bi2
  have BL2 := Lib.hid bl2
  clear o2 bi2 bl2
  go_wp2
  go_ret
  refine ⟨rfl, OX2.out, OY2.out, fun p hp h3 h4 => ?_, ((B0.out.mono hD).trans BL1.out).trans BL2.out⟩
  have e1 := BI1.out.2 p h3
  have e2 := BI2.out.2 p h4
  exact ⟨e2.1.trans (e1.1.trans (B0.out.cell hp)), e2.2.trans (e1.2.trans (B0.out.frozen hp))⟩

end Go.Proofs.Ytlcpbdbdiahmjaa



/- Lists that a call hands out: own memory; what the marks of a ring leave of them. -/
namespace Go.Proofs.Ytlcpbdbdiahmjaa
open Go.RowKit

/-- A list whose memory is the call's own. -/
def SliceOut (D : Nat) (w : World) (v : Value) (Z : List Int) : Prop := ∃ (A : Option Addr) (l c : Nat), v = .slice A l c ∧ Own w D A l Z ∧ l ≤ c ∧ l ≤ 1048570
theorem SliceOut.nil {D : Nat} {w : World} : SliceOut D w (.slice none 0 0) [] := ⟨none, 0, 0, rfl, Own.nil, Nat.le_refl _, by omega⟩
theorem SliceOut.next {D : Nat} {w w' : World} {v : Value} {Z : List Int} (h : SliceOut D w v Z) (hb : Below w.heap.size w w') : SliceOut D w' v Z := by
  obtain ⟨A, l, c, e, h1, h2⟩ := h
  exact ⟨A, l, c, e, h1.next hb, h2⟩
theorem Own.down {w : World} {D D' n : Nat} {A : Option Addr} {xs : List Int} (h : Own w D A n xs) (hD : D' ≤ D) : Own w D' A n xs :=
  ⟨h.1, fun hn => by
    obtain ⟨g, off, e, h1, h2⟩ := h.2 hn
    exact ⟨g, off, e, Nat.le_trans hD h1, h2⟩⟩
theorem SliceOut.down {D D' : Nat} {w : World} {v : Value} {Z : List Int} (h : SliceOut D w v Z) (hD : D' ≤ D) : SliceOut D' w v Z := by
  obtain ⟨A, l, c, e, h1, h2⟩ := h
  exact ⟨A, l, c, e, h1.down hD, h2⟩
theorem SliceOut.of_row {D n : Nat} {w : World} {v : Value} {Z : List Int} {T : TypeId} (h : w.ownsRow D T 1 v n (Z.map (.int .i64))) (hn : Z.length = n) (hl : n ≤ 1048570) : SliceOut D w v Z := by
  rcases h.2 with ⟨rfl, h0⟩ | ⟨g, cap, cur, rfl, _, _, hc, _⟩
  · subst h0
    obtain rfl := List.eq_nil_of_length_eq_zero hn
    exact SliceOut.nil
  · exact ⟨_, _, _, rfl, own_of_row h hn, hc, hl⟩
/-- What the marks of a ring leave of another list. -/
theorem Own.marked {w w' : World} {D n g1 g2 k1 k2 : Nat} {A : Option Addr} {xs : List Int} (h : Own w D A n xs) (hs : w.heap.size ≤ w'.heap.size)
    (hk : ∀ p : Addr, p.block < w.heap.size → ¬ InS (some ⟨g1, 0, none⟩) k1 p → ¬ InS (some ⟨g2, 0, none⟩) k2 p → w'.cell? p = w.cell? p ∧ w'.frozen? p = w.frozen? p) (h1 : g1 < D) (h2 : g2 < D) : Own w' D A n xs :=
  ⟨h.1, fun hn => by
    obtain ⟨g, off, e, hD, hg, hc⟩ := h.2 hn
    refine ⟨g, off, e, hD, Nat.lt_of_lt_of_le hg hs, fun k hkn => ?_⟩
    have := hk ⟨g, off + k, none⟩ hg (fun ⟨g', off', j, e', _, ep⟩ => by
        simp only [Option.some.injEq, Addr.mk.injEq, and_true] at e' ep
        omega) (fun ⟨g', off', j, e', _, ep⟩ => by
        simp only [Option.some.injEq, Addr.mk.injEq, and_true] at e' ep
        omega)
    exact ⟨this.1.trans (hc k hkn).1, this.2.trans (hc k hkn).2⟩⟩
theorem apart_two {g1 g2 k1 k2 : Nat} (h : g1 < g2) : Apart (some ⟨g1, 0, none⟩) k1 (some ⟨g2, 0, none⟩) k2 := by
  rintro p ⟨q, off, j, e, _, rfl⟩ ⟨q', off', j', e', _, ep⟩
  simp only [Option.some.injEq, Addr.mk.injEq, and_true] at e e' ep
  omega

end Go.Proofs.Ytlcpbdbdiahmjaa



/- The text of a table: appendTable. -/
namespace Go.Proofs.Ytlcpbdbdiahmjaa
open Go.RowKit

/-- The digit of an element. -/
def dig (t : Nat) : UInt8 := #[48, 49, 50, 51, 52, 53, 54, 55, 56, 57, 97, 98, 99, 100, 101, 102].getD t 48
theorem dig_at (t : Nat) (h : t < 16) : ({ data := #[48, 49, 50, 51, 52, 53, 54, 55, 56, 57, 97, 98, 99, 100, 101, 102] } : ByteArray)[t]'h = dig t := by
  have g : ∀ t : Fin 16, (#[48, 49, 50, 51, 52, 53, 54, 55, 56, 57, 97, 98, 99, 100, 101, 102] : Array UInt8)[t.val]'t.isLt = dig t.val := by decide
  exact g ⟨t, h⟩
theorem Blk.grown {w w' : World} {g : Nat} {t : TypeId} {cs : Array Value} {row : Option Nat} (h : Blk w g t cs) (hb : w.grownBy w' row) (hg : some g ≠ row) : Blk w' g t cs := (hb.block g h.lt hg).trans h
theorem Blk.ne_ {w : World} {g g' : Nat} {t t' : TypeId} {cs cs' : Array Value} (h : Blk w g t cs) (h' : Blk w g' t' cs') (hne : t ≠ t') : g ≠ g' := by
  rintro rfl
  unfold Blk at h h'
  rw [h] at h'
  injection h' with h'
  injection h' with _ ht
  exact hne ht
theorem own_blk_ne {w : World} {g : Nat} {t : TypeId} {cs : Array Value} {base : Nat} {e : TypeId} {size n : Nat} {v : Value} {xs : List Value} (h : w.ownsRow base e size v n xs) (hg : Blk w g t cs) (hne : e ≠ t) : some g ≠ v.ownBlock := by
  rcases h.2 with ⟨rfl, _⟩ | ⟨g', cap, cur, rfl, _, hh, _⟩
  · simp [Value.ownBlock]
  · intro he
    have : g = g' := by simpa [Value.ownBlock] using he
    subst this
    exact Blk.ne_ (t := e) hh hg hne rfl
/-- What a step of an append leaves: a box of another type and old memory are as they were. -/
theorem append_keeps {w w1 : World} {o : Obj} {D g n : Nat} {e t : TypeId} {cs : Array Value} {v : Value} {xs : List Value} (hb : Blk w g t cs) (hown : w.ownsRow D e 1 v n xs) (hne : e ≠ t) (hg : (w.alloc o).grownBy w1 v.ownBlock) (hD : D ≤ w.heap.size) :
    Blk w1 g t cs ∧ Below D w w1 ∧ D ≤ w1.heap.size :=
  ⟨(hb.alloc o).grown hg (own_blk_ne (hown.alloc o) (hb.alloc o) hne), ((Below.refl _ _).alloc hD o).grown hg (by simp; omega) (fun k hk => (hown.lt k hk).1), Nat.le_trans hD (Nat.le_trans (by simp) hg.size)⟩

theorem own_none (v : Value) : v.ownBlock = none ∨ v.ownBlock ≠ none := by
  cases v.ownBlock <;> simp

end Go.Proofs.Ytlcpbdbdiahmjaa



/- The text of a ring: FormatRing. -/
namespace Go.Proofs.Ytlcpbdbdiahmjaa
open Go.RowKit

/-- A literal slice of bytes owns its cells. -/
theorem own_literal {w : World} {base : Nat} {e : TypeId} (l : List Value) (hb : base ≤ w.heap.size) (hl : l.length ≤ maxLen) :
    (w.alloc (.cells l.toArray e)).ownsRow base e 1 (.slice (some ⟨w.heap.size, 0, none⟩) l.length l.length) l.length l :=
  ⟨by simp, .inr ⟨w.heap.size, l.length, l.toArray, rfl, hb, heap_alloc_new w _, Nat.le_refl _, hl, by simp, by simp⟩⟩
attribute [local go_sem] dig_at

theorem below_of_eq {P : Program} {f : FuncId} {args : Array Value} {w : World} {v : Value} (h : Calls P f args w fun e w' => e = .returned v ∧ w = w') : Calls P f args w fun e w' => e = .returned v ∧ Below w.heap.size w w' :=
  h.mono fun _ _ ⟨he, hw⟩ => ⟨he, by subst hw; exact Below.refl _ _⟩

end Go.Proofs.Ytlcpbdbdiahmjaa



/- Plain facts: what follows from the laws of a ring given by tables: sums, opposites, repeated sums, powers. No program in sight. -/
namespace Go.Proofs.Ytlcpbdbdiahmjaa
open Go.RowKit

/-- Tables of a ring. -/
structure RTab (m : Nat) (S P : Nat → Nat) (e : Nat) : Prop where
  hm : 1 ≤ m
  he : e < m
  sl : ∀ k, k < m * m → S k < m
  pl : ∀ k, k < m * m → P k < m
  s : OpLaw m S 0
  p : OpLaw m P e
  n : NegLaw m S
  d : DistLaw m S P
theorem rtab_of_valid {m e : Nat} {X Y : List Int} (h : validB m e X Y = true) : RTab m (tabOf X) (tabOf Y) e := by
  unfold validB at h
  rw [Bool.and_eq_true] at h
  obtain ⟨hf, hl⟩ := h
  obtain ⟨m', e', em, ee, h1, h2, h3, _, _, tX, tY⟩ := fits_data hf
  have em' : m = m' := by omega
  have ee' : e = e' := by omega
  subst em' ee'
  simp only [Int.toNat_natCast] at hl
  obtain ⟨l1, l2, l3, l4⟩ := laws_iff.1 hl
  exact ⟨h1, h3, fun k hk => (tX k hk).2, fun k hk => (tY k hk).2, l1, l2, l3, l4⟩

theorem idx_data {xs : List Int} {v : Int} {c : Nat} (h : idx xs v = c) : c < xs.length ∧ xs[c]?.getD 0 = v := by
  unfold idx at h
  split at h
  · rename_i hl
    have h1 := List.findIdx_getElem (w := hl)
    have h2 : xs[xs.findIdx (· == v)] = v := by simpa using h1
    have e : xs.findIdx (· == v) = c := by omega
    subst e
    refine ⟨hl, ?_⟩
    rw [List.getElem?_eq_getElem hl]
    exact h2
  · omega
section
variable {m e : Nat} {S P : Nat → Nat}
theorem RTab.sc (R : RTab m S P e) {a b : Nat} (ha : a < m) (hb : b < m) : S (a * m + b) < m := R.sl _ (idx_lt ha hb)
theorem RTab.pc (R : RTab m S P e) {a b : Nat} (ha : a < m) (hb : b < m) : P (a * m + b) < m := R.pl _ (idx_lt ha hb)
theorem RTab.z (R : RTab m S P e) : 0 < m := R.hm
/-- Sums and products as operations. -/
def RTab.A (R : RTab m S P e) (a b : Fin m) : Fin m := ⟨S (a.1 * m + b.1), R.sc a.2 b.2⟩
def RTab.M (R : RTab m S P e) (a b : Fin m) : Fin m := ⟨P (a.1 * m + b.1), R.pc a.2 b.2⟩
def RTab.o (R : RTab m S P e) : Fin m := ⟨e, R.he⟩
def RTab.t (R : RTab m S P e) : Fin m := ⟨0, R.hm⟩
theorem RTab.Ac (R : RTab m S P e) (a b : Fin m) : R.A a b = R.A b a := Fin.ext (R.s.comm a.2 b.2)
theorem RTab.Mc (R : RTab m S P e) (a b : Fin m) : R.M a b = R.M b a := Fin.ext (R.p.comm a.2 b.2)
theorem RTab.MA (R : RTab m S P e) (a b c : Fin m) : R.M a (R.A b c) = R.A (R.M a b) (R.M a c) := Fin.ext (R.d a.1 a.2 b.1 b.2 c.1 c.2)
theorem RTab.A0 (R : RTab m S P e) (a : Fin m) : R.A a R.t = a := Fin.ext (R.s.zero a.2)
theorem RTab.Z0 (R : RTab m S P e) (a : Fin m) : R.A R.t a = a := by rw [R.Ac, R.A0]
theorem RTab.M1 (R : RTab m S P e) (a : Fin m) : R.M a R.o = a := Fin.ext (R.p.zero a.2)
theorem RTab.O1 (R : RTab m S P e) (a : Fin m) : R.M R.o a = a := by rw [R.Mc, R.M1]
theorem RTab.inj (R : RTab m S P e) {a b c : Fin m} (h : R.A a c = R.A b c) : a = b := Fin.ext (sum_inj R.s R.n c.2 a.2 b.2 (congrArg Fin.val h))
end


section
variable {m e : Nat} {S P : Nat → Nat}
theorem RTab.pw_lt (R : RTab m S P e) {a : Nat} (ha : a < m) (k : Nat) : seqZ m P e a k < m := seqZ_lt R.pl R.he ha k
theorem RTab.pw_add (R : RTab m S P e) {a : Nat} (ha : a < m) (i : Nat) : ∀ j, seqZ m P e a (i + j) = P (seqZ m P e a i * m + seqZ m P e a j)
  | 0 => (R.p.zero (R.pw_lt ha i)).symm
  | j + 1 => by
    show P (seqZ m P e a (i + j) * m + a) = P (seqZ m P e a i * m + P (seqZ m P e a j * m + a))
    rw [R.pw_add ha i j]
    exact R.p.assoc (R.pw_lt ha i) (R.pw_lt ha j) ha
theorem RTab.pw_mul (R : RTab m S P e) {a : Nat} (ha : a < m) (i : Nat) : ∀ j, seqZ m P e (seqZ m P e a i) j = seqZ m P e a (i * j)
  | 0 => rfl
  | j + 1 => by
    show P (seqZ m P e (seqZ m P e a i) j * m + seqZ m P e a i) = _
    rw [R.pw_mul ha i j, Nat.mul_succ, R.pw_add ha]
theorem RTab.pw_one (R : RTab m S P e) {a : Nat} (ha : a < m) : seqZ m P e a 1 = a := seqZ_one R.p R.he ha
theorem RTab.pw_two (R : RTab m S P e) {a : Nat} (ha : a < m) : seqZ m P e a 2 = P (a * m + a) := by
  show P (seqZ m P e a 1 * m + a) = _
  rw [R.pw_one ha]
theorem RTab.pw_square (R : RTab m S P e) {a : Nat} (ha : a < m) (k : Nat) : seqZ m P e (P (a * m + a)) k = seqZ m P e a (2 * k) := by
  rw [← R.pw_two ha, R.pw_mul ha]
theorem RTab.powF_eq (R : RTab m S P e) : ∀ (f r s n : Nat), r < m → s < m → n < 2 ^ f → powF m P f r s n = P (r * m + seqZ m P e s n)
  | 0, r, s, n, hr, hs, hn => by
    have : n = 0 := by simpa using hn
    subst this
    exact (R.p.zero hr).symm
  | f + 1, r, s, n, hr, hs, hn => by
    rcases Nat.eq_zero_or_pos n with h0 | h0
    · subst h0
      rw [powF_zero]
      exact (R.p.zero hr).symm
    · have hn2 : n / 2 < 2 ^ f := by rw [Nat.pow_succ] at hn; omega
      rcases Nat.mod_two_eq_zero_or_one n with h | h
      · rw [powF_even (by omega) (by omega), R.powF_eq f r _ _ hr (R.pc hs hs) hn2, R.pw_square hs]
        congr 3
        omega
      · rw [powF_odd h, R.powF_eq f _ _ _ (R.pc hr hs) (R.pc hs hs) hn2, R.pw_square hs, R.p.assoc hr hs (R.pw_lt hs _)]
        have h2 := R.pw_add hs 1 (2 * (n / 2))
        rw [R.pw_one hs, show 1 + 2 * (n / 2) = n by omega] at h2
        rw [h2]
theorem RTab.pow_eq (R : RTab m S P e) {a n : Nat} (ha : a < m) (hn : n < 2 ^ 63) : powF m P 63 e a n = seqZ m P e a n := by
  rw [R.powF_eq 63 e a n R.he ha hn, R.p.comm R.he (R.pw_lt ha n), R.p.zero (R.pw_lt ha n)]
end

end Go.Proofs.Ytlcpbdbdiahmjaa



/- Plain facts: lists that part into blocks of one size; the characteristic divides the size. No program in sight. -/
namespace Go.Proofs.Ytlcpbdbdiahmjaa
open Go.RowKit

section
variable {m e : Nat} {S P : Nat → Nat}
end

end Go.Proofs.Ytlcpbdbdiahmjaa



/- Drawn laws: contracts over a ring that lies in a world. -/
namespace Go.Proofs.Ytlcpbdbdiahmjaa
open Go.RowKit
set_option maxRecDepth 100000

/-- A ring lies in a world, valid or not. -/
structure RIn (w : World) (A : Option Addr) (la ca : Nat) (B : Option Addr) (lb cb : Nat) (X Y : List Int) : Prop where
  hX : Ints w w.heap.size A la X
  hY : Ints w w.heap.size B lb Y
  hla : la ≤ 9223372036854775807
  hlb : lb ≤ 9223372036854775807
  hca : la ≤ ca
  hcb : lb ≤ cb
theorem RIn.next {w w' : World} {A B : Option Addr} {la ca lb cb : Nat} {X Y : List Int} (h : RIn w A la ca B lb cb X Y) (hb : Below w.heap.size w w') : RIn w' A la ca B lb cb X Y :=
  ⟨h.hX.next hb, h.hY.next hb, h.hla, h.hlb, h.hca, h.hcb⟩
section
variable {n o : Int} {A B : Option Addr} {la ca lb cb : Nat} {X Y : List Int} {w : World}
theorem c_mul (h : RIn w A la ca B lb cb X Y) (x : Int) (y : Int) (z : Int) (hz : opV (tabOf Y) n o X Y x y = z) : Calls Try.prog 27 #[.agg #[.int .i64 n, .int .i64 o, .slice A la ca, .slice B lb cb], .int .i64 x, .int .i64 y] w fun e' w' => e' = .returned (.int .i64 z) ∧ Below w.heap.size w w' := by
  subst hz
  exact mul_any n o A B la ca lb cb X Y x y w h.hX h.hY h.hla h.hlb h.hca h.hcb
theorem c_pow (h : RIn w A la ca B lb cb X Y) (x : Int) (k : Int) (hk : k ≤ 9223372036854775807) (z : Int) (hz : powV n o X Y x k = z) : Calls Try.prog 28 #[.agg #[.int .i64 n, .int .i64 o, .slice A la ca, .slice B lb cb], .int .i64 x, .int .i64 k] w fun e' w' => e' = .returned (.int .i64 z) ∧ Below w.heap.size w w' := by
  subst hz
  exact pow_any n o A B la ca lb cb X Y x k w h.hX h.hY h.hla h.hlb h.hca h.hcb hk
end

section
variable {m e : Nat} {X Y : List Int}
theorem inB_nat {m a : Nat} (h : a < m) : inB m a = true := inB_true ⟨by omega, by omega⟩
theorem v_mul (hv : validB m e X Y = true) {a b s : Nat} (ha : a < m) (hb : b < m) (hs : tabOf Y (a * m + b) = s) {x y z : Int} (hx : x = a) (hy : y = b) (hz : z = s) : opV (tabOf Y) m e X Y x y = z := by
  subst hx hy hz hs
  exact opV_yes hv (inB_nat ha) (inB_nat hb)
theorem v_pow (hv : validB m e X Y = true) {a s j : Nat} (ha : a < m) (hj : j < 2 ^ 63) (hs : seqZ m (tabOf Y) e a j = s) {x k z : Int} (hx : x = a) (hk : k = j) (hz : z = s) : powV m e X Y x k = z := by
  subst hx hk hz hs
  rw [powV_yes hv (inB_nat ha) (by omega)]
  congr 1
  exact (rtab_of_valid hv).pow_eq ha hj
end

end Go.Proofs.Ytlcpbdbdiahmjaa

