/- Texts of this seat in one: B3 C1 B4 M1 N1 B5 B6 B7 B8 C2 C3 C4 C5 F1 F2 E1 E2 Y1. -/
import Derived.Test.YtkjanhcajopfhaaMA
import Derived.Laws.IdiomStrings

/- The contracts of Add, Mul, Neg, Times, Power and CharacteristicOf, of both sides. -/
namespace Go.Proofs.Ytkjanhcajopfhaa
open Go.RowKit

end Go.Proofs.Ytkjanhcajopfhaa



/- The laws' helpers: copies of lists and rings. -/
namespace Go.Proofs.Ytkjanhcajopfhaa
open Go.RowKit

def Blk (w : World) (g : Nat) (t : TypeId) (cs : Array Value) : Prop := w.heap[g]? = some (.cells cs t (0, 0))
section
variable {w w' : World} {g : Nat} {t : TypeId} {cs : Array Value}
theorem Blk.lt (h : Blk w g t cs) : g < w.heap.size := by
  rcases Nat.lt_or_ge g w.heap.size with hlt | hge
  · exact hlt
  · unfold Blk at h; rw [Array.getElem?_eq_none hge] at h; cases h
theorem Blk.cell (h : Blk w g t cs) (i : Nat) : w.cell? ⟨g, i, none⟩ = cs[i]? := cell_of_row w g i cs t (0, 0) h
theorem Blk.frozen (h : Blk w g t cs) (i : Nat) : w.frozen? ⟨g, i, none⟩ = false := by
  unfold Blk at h
  simp [World.frozen?, h]
theorem Blk.new (w : World) (t : TypeId) (cs : Array Value) : Blk (w.alloc (.cells cs t)) w.heap.size t cs := heap_alloc_new w _
theorem Blk.drewN (h : Blk w g t cs) (n : Nat) : Blk (w.drewN n) g t cs := h
theorem Blk.alloc (h : Blk w g t cs) (o : Obj) : Blk (w.alloc o) g t cs := (Below.heap_alloc w o g h.lt).trans h
theorem Blk.set_ (h : Blk w g t cs) (i : Nat) (u : Value) : Blk (w.setCell ⟨g, i, none⟩ u) g t (cs.setIfInBounds i u) := by
  unfold Blk at h ⊢
  simp [World.setCell, Array.getElem?_modify, h]
theorem Blk.far (h : Blk w g t cs) {p : Addr} (hp : g ≠ p.block) (u : Value) : Blk (w.setCell p u) g t cs := (Below.heap_setCell w p u g hp).trans h
theorem Blk.below {B : Nat} (h : Blk w g t cs) (hb : Below B w w') (hg : g < B) : Blk w' g t cs := (hb.block g hg).trans h
end

/-- What is below is as it was: as 'grownBy' says it, of the blocks that were there. -/
theorem Below.grown_ {w w' : World} (h : Below w.heap.size w w') : w.grownBy w' none := ⟨h.os, h.tape, h.output, h.size, fun i hi _ => h.block i hi⟩

theorem own_base {w : World} {base base' : Nat} {e : TypeId} {size n : Nat} {v : Value} {xs : List Value} (h : w.ownsRow base e size v n xs) (hb : base' ≤ base) : w.ownsRow base' e size v n xs := by
  obtain ⟨h1, h2⟩ := h
  refine ⟨h1, ?_⟩
  rcases h2 with h2 | ⟨g, cap, cur, hv, hg, r⟩
  · exact Or.inl h2
  · exact Or.inr ⟨g, cap, cur, hv, Nat.le_trans hb hg, r⟩

theorem int_info : (Try.prog.info? 3).map (fun i => (i.zero, i.size, i.bytes)) = some (some (.int .i64 0), 1, 8) := by kernel_rfl

/-- A list that is filled from its head. -/
def fillL (xs : List Int) (len k : Nat) : List Value := (List.range len).map fun j => .int .i64 (if j < k then xs[j]?.getD 0 else 0)
theorem fillL_length {xs : List Int} {len k : Nat} : (fillL xs len k).length = len := by simp [fillL]
theorem fillL_get {xs : List Int} {len k j : Nat} (hj : j < len) : (fillL xs len k)[j]? = some (.int .i64 (if j < k then xs[j]?.getD 0 else 0)) := by
  unfold fillL
  rw [List.getElem?_map, List.getElem?_range hj]; rfl
theorem fillL_zero {xs : List Int} {len : Nat} : (madeCells (Value.int .i64 0).cells (len * 1)).toList = fillL xs len 0 := by
  apply List.ext_getElem?
  intro j
  by_cases hj : j < len
  · rw [fillL_get hj]
    simp [madeCells, Value.cells, hj, Nat.mod_one]
  · rw [List.getElem?_eq_none (by simp [madeCells]; omega), List.getElem?_eq_none (by rw [fillL_length]; omega)]
/-- What a row owns reads as a list of ints. -/
theorem ints_of_own {w : World} {base g cap n : Nat} {xs : List Int} {T : TypeId} (h : w.ownsRow base T 1 (.slice (some ⟨g, 0, none⟩) n cap) n (xs.map (.int .i64))) (hn : xs.length = n) : Ints w w.heap.size (some ⟨g, 0, none⟩) n xs := by
  refine ⟨hn, fun h0 => ⟨g, 0, rfl, (h.lt g rfl).2, fun k x hx => ?_⟩⟩
  have hk : k < n := by
    rcases Nat.lt_or_ge k n with h1 | h1
    · exact h1
    · rw [List.getElem?_eq_none (by omega)] at hx; cases hx
  rw [Nat.zero_add, h.cellAt k (by omega), List.getElem?_map, hx]; rfl

end Go.Proofs.Ytkjanhcajopfhaa



/- The contracts of the reading side's Add and Mul. -/
namespace Go.Proofs.Ytkjanhcajopfhaa
open Go.RowKit

/-- The bound of l1Elements, of a size. -/
def hiOf (n : Int) : Int := wrap64 (n - 1)
theorem hi_valid {n o : Int} {X Y : List Int} (h : validB n o X Y = true) : hiOf n = n - 1 := by
  unfold validB at h
  rw [Bool.and_eq_true] at h
  obtain ⟨h1, h2, _⟩ := fitsB_iff.1 h.1
  exact wrap_in (by omega) (by omega)
end Go.Proofs.Ytkjanhcajopfhaa



/- Plain facts on tables of sums: repeated sums come back to 0 in at most as many steps as there are elements. No program in sight. -/
namespace Go.Proofs.Ytkjanhcajopfhaa
open Go.RowKit

/-- So many times an element. -/
def seqT (m : Nat) (S : Nat → Nat) (a : Nat) : Nat → Nat
  | 0 => 0
  | k + 1 => S (seqT m S a k * m + a)

theorem pigeon : ∀ (m : Nat) (f : Nat → Nat), (∀ i, i ≤ m → f i < m) → ∃ i j, i < j ∧ j ≤ m ∧ f i = f j
  | 0, f, h => absurd (h 0 (Nat.le_refl _)) (by omega)
  | m + 1, f, h => by
    by_cases hx : ∃ i, i ≤ m ∧ f i = f (m + 1)
    · obtain ⟨i, hi, e⟩ := hx
      exact ⟨i, m + 1, by omega, Nat.le_refl _, e⟩
    · have hne : ∀ i, i ≤ m → f i ≠ f (m + 1) := fun i hi e => hx ⟨i, hi, e⟩
      have hv := h (m + 1) (Nat.le_refl _)
      obtain ⟨i, j, hij, hj, e⟩ := pigeon m (fun i => if f i > f (m + 1) then f i - 1 else f i) (fun i hi => by
        have h1 := h i (by omega)
        have h2 := hne i hi
        show (if f i > f (m + 1) then f i - 1 else f i) < m
        split <;> omega)
      refine ⟨i, j, hij, by omega, ?_⟩
      have h1 := hne i (by omega)
      have h2 := hne j hj
      have e' : (if f i > f (m + 1) then f i - 1 else f i) = (if f j > f (m + 1) then f j - 1 else f j) := e
      split at e' <;> split at e' <;> omega

section
variable {m : Nat} {S : Nat → Nat}
theorem OpLaw.zero {e a : Nat} {T : Nat → Nat} (h : OpLaw m T e) (ha : a < m) : T (a * m + e) = a := (h a ha).1
theorem OpLaw.comm {e a b : Nat} {T : Nat → Nat} (h : OpLaw m T e) (ha : a < m) (hb : b < m) : T (a * m + b) = T (b * m + a) := ((h a ha).2 b hb).1
theorem OpLaw.assoc {e a b c : Nat} {T : Nat → Nat} (h : OpLaw m T e) (ha : a < m) (hb : b < m) (hc : c < m) : T (T (a * m + b) * m + c) = T (a * m + T (b * m + c)) := ((h a ha).2 b hb).2 c hc

theorem seqT_lt (hS : ∀ k, k < m * m → S k < m) (hm : 1 ≤ m) {a : Nat} (ha : a < m) : ∀ k, seqT m S a k < m
  | 0 => hm
  | k + 1 => hS _ (idx_lt (seqT_lt hS hm ha k) ha)
/-- Sums with one element differ where the others do. -/
theorem sum_inj (h : OpLaw m S 0) (hn : NegLaw m S) {a x y : Nat} (ha : a < m) (hx : x < m) (hy : y < m) (e : S (x * m + a) = S (y * m + a)) : x = y := by
  obtain ⟨c, hc, h0⟩ := rowL_mem.1 (show ((0 : Nat) : Int) ∈ rowL m S a from hn a ha)
  have e1 := h.assoc hx ha hc
  have e2 := h.assoc hy ha hc
  rw [h0, h.zero hx] at e1
  rw [h0, h.zero hy] at e2
  rw [← e1, ← e2, e]
theorem seqT_back (hS : ∀ k, k < m * m → S k < m) (h : OpLaw m S 0) (hn : NegLaw m S) (hm : 1 ≤ m) {a : Nat} (ha : a < m) : ∀ i d, seqT m S a i = seqT m S a (i + d) → seqT m S a d = 0
  | 0, d, e => by rw [Nat.zero_add] at e; exact e.symm
  | i + 1, d, e => by
    refine seqT_back hS h hn hm ha i d ?_
    rw [show i + 1 + d = (i + d) + 1 by omega] at e
    exact sum_inj h hn ha (seqT_lt hS hm ha i) (seqT_lt hS hm ha (i + d)) e

/-- d is the least number of times, from 1 on, that an element has the sum 0. -/
def IsOrd (m : Nat) (S : Nat → Nat) (a d : Nat) : Prop := 1 ≤ d ∧ d ≤ m ∧ seqT m S a d = 0 ∧ ∀ j, 1 ≤ j → j < d → seqT m S a j ≠ 0
theorem least_of {p : Nat → Prop} : ∀ n, p n → ∃ k, k ≤ n ∧ p k ∧ ∀ j, j < k → ¬ p j
  | n, hn => by
    by_cases h : ∃ j, j < n ∧ p j
    · obtain ⟨j, hj, hp⟩ := h
      obtain ⟨k, hk, hpk, hl⟩ := least_of j hp
      exact ⟨k, by omega, hpk, hl⟩
    · exact ⟨n, Nat.le_refl _, hn, fun j hj hp => h ⟨j, hj, hp⟩⟩
  termination_by n => n
theorem ord_exists (hS : ∀ k, k < m * m → S k < m) (h : OpLaw m S 0) (hn : NegLaw m S) (hm : 1 ≤ m) {a : Nat} (ha : a < m) : ∃ d, IsOrd m S a d := by
  obtain ⟨i, j, hij, hj, e⟩ := pigeon m (seqT m S a) (fun i _ => seqT_lt hS hm ha i)
  have h0 := seqT_back hS h hn hm ha i (j - i) (by rw [show i + (j - i) = j by omega]; exact e)
  obtain ⟨k, hk, ⟨hk1, hk0⟩, hl⟩ := least_of (p := fun d => 1 ≤ d ∧ seqT m S a d = 0) (j - i) ⟨by omega, h0⟩
  exact ⟨k, hk1, by omega, hk0, fun j hj1 hj2 e => hl j hj2 ⟨hj1, e⟩⟩
noncomputable def ordN (m : Nat) (S : Nat → Nat) (a : Nat) : Nat := Classical.epsilon (IsOrd m S a)
theorem ordN_spec (hS : ∀ k, k < m * m → S k < m) (h : OpLaw m S 0) (hn : NegLaw m S) (hm : 1 ≤ m) {a : Nat} (ha : a < m) : IsOrd m S a (ordN m S a) := Classical.epsilon_spec (ord_exists hS h hn hm ha)
end

end Go.Proofs.Ytkjanhcajopfhaa



/- Plain facts: repeated operations with one element come back; orders in a table. No program in sight. -/
namespace Go.Proofs.Ytkjanhcajopfhaa
open Go.RowKit

/-- So many times an element in a table, from z on. -/
def seqZ (m : Nat) (T : Nat → Nat) (z a : Nat) : Nat → Nat
  | 0 => z
  | k + 1 => T (seqZ m T z a k * m + a)
/-- d is the least number of times, from 1 on, that an element gives z. -/
def IsOrdZ (m : Nat) (T : Nat → Nat) (z a d : Nat) : Prop := 1 ≤ d ∧ d ≤ m ∧ seqZ m T z a d = z ∧ ∀ j, 1 ≤ j → j < d → seqZ m T z a j ≠ z
section
variable {m : Nat} {T S P : Nat → Nat} {z e a d : Nat}
theorem seqZ_T : ∀ k, seqZ m S 0 a k = seqT m S a k
  | 0 => rfl
  | k + 1 => by
    show S (seqZ m S 0 a k * m + a) = S (seqT m S a k * m + a)
    rw [seqZ_T k]
theorem isOrd_z (h : IsOrd m S a d) : IsOrdZ m S 0 a d := by
  refine ⟨h.1, h.2.1, ?_, fun j h1 h2 => ?_⟩
  · rw [seqZ_T]; exact h.2.2.1
  · rw [seqZ_T]; exact h.2.2.2 j h1 h2
theorem seqZ_lt (hT : ∀ k, k < m * m → T k < m) (hz : z < m) (ha : a < m) : ∀ k, seqZ m T z a k < m
  | 0 => hz
  | k + 1 => hT _ (idx_lt (seqZ_lt hT hz ha k) ha)
end

end Go.Proofs.Ytkjanhcajopfhaa



/- The contracts of sumOrder, multiple, power, and of the reading side's; of l1Neg. -/
namespace Go.Proofs.Ytkjanhcajopfhaa
open Go.RowKit

set_option maxHeartbeats 1000000 in
/-- The least number of times that an element gives z in a table. -/
theorem order_any (zi : Int) (z a d : Nat) (hzi : zi = z) (b off len cap : Nat) (T : Nat → Nat) (m e b1 o1 la ca b2 o2 lb cb : Nat) (S P : Nat → Nat) (w : World) (hr : RingAt w m e b1 o1 la ca b2 o2 lb cb S P) (hT : Tab w w.heap.size b off m T) (hlen : len = m * m) (hcap : len ≤ cap) (ha : a < m) (hz : z < m) (hd : IsOrdZ m T z a d) (h1 : seqZ m T z a 1 = a) :
    Calls Try.prog 132 #[.agg #[.int .i64 m, .int .i64 e, .slice (some ⟨b1, o1, none⟩) la ca, .slice (some ⟨b2, o2, none⟩) lb cb], .slice (some ⟨b, off, none⟩) len cap, .int .i64 zi, .int .i64 a] w fun e' w' => e' = .returned (.int .i64 d) ∧ Below w.heap.size w w' := by
  have hm := hr.hm
  have hm' := hr.hm'
  have hlt : ∀ k, seqZ m T z a k < m := seqZ_lt (fun k hk => (hT.2 k hk).2) hz ha
  have hd1 := hd.1
  have hd2 := hd.2.1
  have HD := Lib.hid hd
  have H1 := Lib.hid h1
  have HL := Lib.hid hlt
  have HT := Lib.hid hT
  have HN := Lib.hid hlen
  have HZ := Lib.hid hzi
  clear hr hd h1 hlt hT hlen hzi
  go_enter Try.func132, Try.ntmps132
  go_wp2
  go_loopg [9, 10] m (fun g c s wr => ∃ k : Nat, 1 ≤ k ∧ k ≤ d ∧ m ≤ k + g ∧ c = .int .i64 k ∧ s = .int .i64 (seqZ m T z a k) ∧ Below (w.heap.size + 1) (w.alloc (.cells #[.int .i64 m, .int .i64 e, .slice (some ⟨b1, o1, none⟩) la ca, .slice (some ⟨b2, o2, none⟩) lb cb] 27)) wr)
  case atStart => exact ⟨1, Nat.le_refl _, hd1, by omega, rfl, by rw [H1.out], Below.refl _ _⟩
  case round =>
    obtain ⟨k, hk1, hkd, hg, rfl, rfl, hb⟩ := hrel
    obtain ⟨c0, c1, c2, c3, hs1⟩ := box4 hb
    have X1 := Lib.hid hb
    have T1 := Lib.hid (HT.out.next (below_of_box hb))
    have hl := HL.out k
    clear hb
    by_cases h0 : seqZ m T z a k = z
    · have H0 := Lib.hid h0
      have t0 : (((seqZ m T z a k : Nat) : Int) != zi) = false := by rw [bne_eq_false_iff_eq, HZ.out]; omega
      have hkk : k = d := by
        rcases Nat.lt_or_ge k d with h2 | h2
        · exact absurd h0 (HD.out.2.2.2 k hk1 h2)
        · omega
      have HK := Lib.hid hkk
      clear h0 hkk
      go_wp2
      go_ret
      exact ⟨ret_int (by rw [HK.out]), below_of_box X1.out⟩
    · have t0 : (((seqZ m T z a k : Nat) : Int) != zi) = true := by rw [bne_iff_ne, HZ.out]; omega
      have hkk : k < d := by
        rcases Nat.lt_or_ge k d with h2 | h2
        · exact h2
        · have e : k = d := by omega
          exact absurd (by rw [e]; exact HD.out.2.2.1) h0
      clear h0
      go_wp2_with (go_at_call 95; (with_reducible refine (row_any m _ _ _ _ _ _ _ b off len cap _ _ hm hm' hl HN.out hcap).mono ?_); rintro e1 w1 ⟨rfl, hb1⟩; have hc := (T1.out.next hb1).at_ hl ha; have X2 := Lib.hid (X1.out.trans (hb1.mono (by omega))); clear hb1)
      go_roundg (m - (k + 1))
      case measure => omega
      case rel => exact ⟨k + 1, by omega, by omega, by omega, by go_num, rfl, X2.out⟩

set_option maxHeartbeats 1000000 in
theorem sumOrder_any (a d : Nat) (m e b1 o1 la ca b2 o2 lb cb : Nat) (S P : Nat → Nat) (w : World) (hr : RingAt w m e b1 o1 la ca b2 o2 lb cb S P) (ha : a < m) (hd : IsOrd m S a d) (h1 : seqT m S a 1 = a) :
    Calls Try.prog 131 #[.agg #[.int .i64 m, .int .i64 e, .slice (some ⟨b1, o1, none⟩) la ca, .slice (some ⟨b2, o2, none⟩) lb cb], .int .i64 a] w fun e' w' => e' = .returned (.int .i64 d) ∧ Below w.heap.size w w' := by
  have HD := Lib.hid (isOrd_z hd)
  have H1 := Lib.hid (show seqZ m S 0 a 1 = a by rw [seqZ_T]; exact h1)
  have hm0 : 0 < m := hr.hm
  have b0 : Below w.heap.size w (w.alloc (.cells #[.int .i64 m, .int .i64 e, .slice (some ⟨b1, o1, none⟩) la ca, .slice (some ⟨b2, o2, none⟩) lb cb] 27)) := (Below.refl _ _).alloc (Nat.le_refl _) _
  have R0 := Lib.hid (hr.next b0)
  clear hr hd h1 b0
  go_enter Try.func131, Try.ntmps131
  go_wp2_with (go_at_call 132; (with_reducible refine (order_any 0 0 a d rfl b1 o1 la ca S m e b1 o1 la ca b2 o2 lb cb S P _ R0.out R0.out.ts R0.out.hla R0.out.hca ha hm0 HD.out H1.out).mono ?_); rintro e1 w1 ⟨rfl, hb1⟩)
  go_ret
  exact ⟨rfl, ((Below.refl _ _).alloc (Nat.le_refl _) _).trans (hb1.mono (by simp))⟩

set_option maxHeartbeats 1000000 in
theorem l1Order_any (a d : Nat) (m e b1 o1 la ca b2 o2 lb cb : Nat) (S P : Nat → Nat) (w : World) (hr : RingAt w m e b1 o1 la ca b2 o2 lb cb S P) (ha : a < m) (hd : IsOrd m S a d) (h1 : seqT m S a 1 = a) :
    Calls Try.prog 101 #[.agg #[.int .i64 m, .int .i64 e, .slice (some ⟨b1, o1, none⟩) la ca, .slice (some ⟨b2, o2, none⟩) lb cb], .int .i64 a] w fun e' w' => e' = .returned (.int .i64 d) ∧ Below w.heap.size w w' := by
  have hm' := hr.hm'
  have hlt : ∀ k, seqT m S a k < m := seqT_lt (fun k hk => (hr.ts.2 k hk).2) hr.hm ha
  have hd1 := hd.1
  have hd2 := hd.2.1
  have HD := Lib.hid hd
  have H1 := Lib.hid h1
  have HR := Lib.hid hr
  have HL := Lib.hid hlt
  clear hr hd h1 hlt
  go_enter Try.func101, Try.ntmps101
  go_wp2
  go_loopg [5, 6] m (fun g c s wr => ∃ k : Nat, 1 ≤ k ∧ k ≤ d ∧ m ≤ k + g ∧ c = .int .i64 k ∧ s = .int .i64 (seqT m S a k) ∧ Below (w.heap.size + 1) (w.alloc (.cells #[.int .i64 m, .int .i64 e, .slice (some ⟨b1, o1, none⟩) la ca, .slice (some ⟨b2, o2, none⟩) lb cb] 27)) wr)
  case atStart => exact ⟨1, Nat.le_refl _, hd1, by omega, rfl, by rw [H1.out], Below.refl _ _⟩
  case round =>
    obtain ⟨k, hk1, hkd, hg, rfl, rfl, hb⟩ := hrel
    obtain ⟨c0, c1, c2, c3, hs1⟩ := box4 hb
    have X1 := Lib.hid hb
    have R1 := Lib.hid (HR.out.next (below_of_box hb))
    have hl := HL.out k
    clear hb
    by_cases h0 : seqT m S a k = 0
    · have H0 := Lib.hid h0
      have t0 : (((seqT m S a k : Nat) : Int) != 0) = false := by rw [bne_eq_false_iff_eq]; omega
      have h0' : seqT m S a k ≤ 0 := by omega
      have hkk : k = d := by
        rcases Nat.lt_or_ge k d with h2 | h2
        · exact absurd h0 (HD.out.2.2.2 k hk1 h2)
        · omega
      have HK := Lib.hid hkk
      clear h0 hkk
      go_wp2
      go_ret
      exact ⟨ret_int (by rw [HK.out]), below_of_box X1.out⟩
    · have t0 : (((seqT m S a k : Nat) : Int) != 0) = true := by rw [bne_iff_ne]; omega
      have hkk : k < d := by
        rcases Nat.lt_or_ge k d with h2 | h2
        · exact h2
        · have e : k = d := by omega
          exact absurd (by rw [e]; exact HD.out.2.2.1) h0
      go_wp2_with (go_at_call 58; ((with_reducible refine (l1Add_any (seqT m S a k) a m e b1 o1 la ca b2 o2 lb cb S P _ R1.out hl ha).mono ?_); rintro e1 w1 ⟨rfl, hb1⟩; have X2 := Lib.hid (X1.out.trans (hb1.mono (by omega))); clear hb1))
      go_roundg (m - (k + 1))
      case measure => omega
      case rel => exact ⟨k + 1, by omega, by omega, by omega, by go_num, rfl, X2.out⟩

end Go.Proofs.Ytkjanhcajopfhaa



/- The contracts of multiple and power, of both sides, and of l1Neg. -/
namespace Go.Proofs.Ytkjanhcajopfhaa
open Go.RowKit

/-- How many times: the remainder by the order, for a number below 0 too. -/
def cntN (n : Int) (d : Nat) : Nat := ((n.tmod d + d) % d).toNat
theorem cnt_facts {n : Int} {d : Nat} (hd : 1 ≤ d) : -(d : Int) < n.tmod d ∧ n.tmod d < d ∧ 0 ≤ n.tmod d + d ∧ (n.tmod d + d) % d = (cntN n d : Int) ∧ cntN n d < d := by
  have h1 : n.tmod d < d := Int.tmod_lt_of_pos _ (by omega)
  have h2 : -(d : Int) < n.tmod d := by
    have := Int.tmod_lt_of_pos (-n) (show (0 : Int) < d by omega)
    rw [Int.neg_tmod] at this
    omega
  have h3 : 0 ≤ (n.tmod d + d) % d := Int.emod_nonneg _ (by omega)
  have h4 : (n.tmod d + d) % d < d := Int.emod_lt_of_pos _ (by omega)
  unfold cntN
  refine ⟨h2, h1, by omega, by omega, by omega⟩

set_option maxHeartbeats 1000000 in
theorem multiple_any (n : Int) (a d : Nat) (m e b1 o1 la ca b2 o2 lb cb : Nat) (S P : Nat → Nat) (w : World) (hr : RingAt w m e b1 o1 la ca b2 o2 lb cb S P) (ha : a < m) (hd : IsOrd m S a d) (h1 : seqT m S a 1 = a) :
    Calls Try.prog 130 #[.agg #[.int .i64 m, .int .i64 e, .slice (some ⟨b1, o1, none⟩) la ca, .slice (some ⟨b2, o2, none⟩) lb cb], .int .i64 n, .int .i64 a] w fun e' w' => e' = .returned (.int .i64 (seqT m S a (cntN n d))) ∧ Below w.heap.size w w' := by
  have hm' := hr.hm'
  have hlt : ∀ k, seqT m S a k < m := seqT_lt (fun k hk => (hr.ts.2 k hk).2) hr.hm ha
  have hd1 := hd.1
  have hd2 := hd.2.1
  obtain ⟨t1, t2, t3, t4, t5⟩ := cnt_facts (n := n) hd1
  have HD := Lib.hid hd
  have H1 := Lib.hid h1
  have HL := Lib.hid hlt
  have HC := Lib.hid t4
  have b0 : Below w.heap.size w (w.alloc (.cells #[.int .i64 m, .int .i64 e, .slice (some ⟨b1, o1, none⟩) la ca, .slice (some ⟨b2, o2, none⟩) lb cb] 27)) := (Below.refl _ _).alloc (Nat.le_refl _) _
  have R0 := Lib.hid (hr.next b0)
  have hz : seqT m S a 0 = 0 := rfl
  have HZ := Lib.hid hz
  clear hr hd h1 hlt t4 b0 hz
  go_enter Try.func130, Try.ntmps130
  go_wp2_with (fail)
  refine (sumOrder_any a d m e b1 o1 la ca b2 o2 lb cb S P _ R0.out ha HD.out H1.out).mono ?_
  rintro e1 w1 ⟨rfl, hb1⟩
  obtain ⟨c0, c1, c2, c3, hs1⟩ := box4_next hb1 (by simp) (box4_new _ _ _ _ _ _).1 (box4_new _ _ _ _ _ _).2.1 (box4_new _ _ _ _ _ _).2.2.1 (box4_new _ _ _ _ _ _).2.2.2.1
  have X1 := Lib.hid (show Below (w.heap.size + 1) (w.alloc (.cells #[.int .i64 m, .int .i64 e, .slice (some ⟨b1, o1, none⟩) la ca, .slice (some ⟨b2, o2, none⟩) lb cb] 27)) w1 by simpa using hb1)
  have R1 := Lib.hid (R0.out.next hb1)
  have hs1' : w.heap.size < w1.heap.size := by simp at hs1; omega
  clear hb1 hs1
  go_wp2
  rw [HC.out]
  go_loopg [9, 21] m (fun g s i wr => ∃ k : Nat, k ≤ cntN n d ∧ m ≤ k + g ∧ i = .int .i64 k ∧ s = .int .i64 (seqT m S a k) ∧ Below w1.heap.size w1 wr)
  case atStart => exact ⟨0, Nat.zero_le _, by omega, rfl, by rw [HZ.out]; rfl, Below.refl _ _⟩
  case round =>
    obtain ⟨k, hkc, hg, rfl, rfl, hb⟩ := hrel
    obtain ⟨f0, f1, f2, f3, hs2⟩ := box4_next hb hs1' c0 c1 c2 c3
    have X2 := Lib.hid (X1.out.trans (hb.mono (by omega)))
    have B2 := Lib.hid hb
    have R2 := Lib.hid (R1.out.next hb)
    have hl := HL.out k
    clear hb
    by_cases hlt : k < cntN n d
    · go_wp2_with (go_at_call 69; ((with_reducible refine (sum_any (seqT m S a k) a m e b1 o1 la ca b2 o2 lb cb S P _ R2.out hl ha).mono ?_); rintro e1 w3 ⟨rfl, hb3⟩; have B3 := Lib.hid (B2.out.trans (hb3.mono hs2)); clear hb3))
      go_roundg (m - (k + 1))
      case measure => omega
      case rel => exact ⟨k + 1, by omega, by omega, by go_num, rfl, B3.out⟩
    · have hkk : k = cntN n d := by omega
      have HK := Lib.hid hkk
      clear hkk
      go_wp2
      go_ret
      exact ⟨ret_int (by rw [HK.out]), below_of_box X2.out⟩

set_option maxHeartbeats 1000000 in
theorem l1Times_any (n : Int) (a d : Nat) (m e b1 o1 la ca b2 o2 lb cb : Nat) (S P : Nat → Nat) (w : World) (hr : RingAt w m e b1 o1 la ca b2 o2 lb cb S P) (ha : a < m) (hd : IsOrd m S a d) (h1 : seqT m S a 1 = a) :
    Calls Try.prog 90 #[.agg #[.int .i64 m, .int .i64 e, .slice (some ⟨b1, o1, none⟩) la ca, .slice (some ⟨b2, o2, none⟩) lb cb], .int .i64 n, .int .i64 a] w fun e' w' => e' = .returned (.int .i64 (seqT m S a (cntN n d))) ∧ Below w.heap.size w w' := by
  have hm' := hr.hm'
  have hlt : ∀ k, seqT m S a k < m := seqT_lt (fun k hk => (hr.ts.2 k hk).2) hr.hm ha
  have hd1 := hd.1
  have hd2 := hd.2.1
  obtain ⟨t1, t2, t3, t4, t5⟩ := cnt_facts (n := n) hd1
  have HD := Lib.hid hd
  have H1 := Lib.hid h1
  have HL := Lib.hid hlt
  have HC := Lib.hid t4
  have b0 : Below w.heap.size w (w.alloc (.cells #[.int .i64 m, .int .i64 e, .slice (some ⟨b1, o1, none⟩) la ca, .slice (some ⟨b2, o2, none⟩) lb cb] 27)) := (Below.refl _ _).alloc (Nat.le_refl _) _
  have R0 := Lib.hid (hr.next b0)
  have hz : seqT m S a 0 = 0 := rfl
  have HZ := Lib.hid hz
  clear hr hd h1 hlt t4 b0 hz
  go_enter Try.func90, Try.ntmps90
  go_wp2_with (fail)
  refine (l1Order_any a d m e b1 o1 la ca b2 o2 lb cb S P _ R0.out ha HD.out H1.out).mono ?_
  rintro e1 w1 ⟨rfl, hb1⟩
  obtain ⟨c0, c1, c2, c3, hs1⟩ := box4_next hb1 (by simp) (box4_new _ _ _ _ _ _).1 (box4_new _ _ _ _ _ _).2.1 (box4_new _ _ _ _ _ _).2.2.1 (box4_new _ _ _ _ _ _).2.2.2.1
  have X1 := Lib.hid (show Below (w.heap.size + 1) (w.alloc (.cells #[.int .i64 m, .int .i64 e, .slice (some ⟨b1, o1, none⟩) la ca, .slice (some ⟨b2, o2, none⟩) lb cb] 27)) w1 by simpa using hb1)
  have R1 := Lib.hid (R0.out.next hb1)
  have hs1' : w.heap.size < w1.heap.size := by simp at hs1; omega
  clear hb1 hs1
  go_wp2
  rw [HC.out]
  go_loopg [8, 19] m (fun g s i wr => ∃ k : Nat, k ≤ cntN n d ∧ m ≤ k + g ∧ i = .int .i64 k ∧ s = .int .i64 (seqT m S a k) ∧ Below w1.heap.size w1 wr)
  case atStart => exact ⟨0, Nat.zero_le _, by omega, rfl, by rw [HZ.out]; rfl, Below.refl _ _⟩
  case round =>
    obtain ⟨k, hkc, hg, rfl, rfl, hb⟩ := hrel
    obtain ⟨f0, f1, f2, f3, hs2⟩ := box4_next hb hs1' c0 c1 c2 c3
    have X2 := Lib.hid (X1.out.trans (hb.mono (by omega)))
    have B2 := Lib.hid hb
    have R2 := Lib.hid (R1.out.next hb)
    have hl := HL.out k
    clear hb
    by_cases hlt : k < cntN n d
    · go_wp2_with (go_at_call 58; ((with_reducible refine (l1Add_any (seqT m S a k) a m e b1 o1 la ca b2 o2 lb cb S P _ R2.out hl ha).mono ?_); rintro e1 w3 ⟨rfl, hb3⟩; have B3 := Lib.hid (B2.out.trans (hb3.mono hs2)); clear hb3))
      go_roundg (m - (k + 1))
      case measure => omega
      case rel => exact ⟨k + 1, by omega, by omega, by go_num, rfl, B3.out⟩
    · have hkk : k = cntN n d := by omega
      have HK := Lib.hid hkk
      clear hkk
      go_wp2
      go_ret
      exact ⟨ret_int (by rw [HK.out]), below_of_box X2.out⟩

end Go.Proofs.Ytkjanhcajopfhaa



/- The contracts of Neg, Times, Power and CharacteristicOf, of both sides. -/
namespace Go.Proofs.Ytkjanhcajopfhaa
open Go.RowKit

noncomputable def ifV (c : Prop) (v : Int) : Int := @ite _ c (Classical.propDecidable c) v (-1)
theorem ifV_yes {c : Prop} {v : Int} (h : c) : ifV c v = v := @if_pos c (Classical.propDecidable c) h _ _ _
end Go.Proofs.Ytkjanhcajopfhaa



/- Lists that are the same: the library's Equal, l1Same; SameRing of both sides. -/
namespace Go.Proofs.Ytkjanhcajopfhaa
open Go.RowKit

theorem Blk.next {w w' : World} {g : Nat} {t : TypeId} {cs : Array Value} (h : Blk w g t cs) (hb : Below w.heap.size w w') : Blk w' g t cs := h.below hb h.lt
theorem blk4 {w : World} {g : Nat} {t : TypeId} {a b c d : Value} (h : Blk w g t #[a, b, c, d]) : w.cell? ⟨g, 0, none⟩ = some a ∧ w.cell? ⟨g, 1, none⟩ = some b ∧ w.cell? ⟨g, 2, none⟩ = some c ∧ w.cell? ⟨g, 3, none⟩ = some d :=
  ⟨h.cell 0, h.cell 1, h.cell 2, h.cell 3⟩
theorem below_step {w w1 w2 : World} (h : Below w.heap.size w w1) (hb : Below w1.heap.size w1 w2) : Below w.heap.size w w2 := h.trans (hb.mono h.size)

def eqL (xs ys : List Int) : Bool := decide (xs = ys)
def AlikeTo (xs ys : List Int) (k : Nat) : Prop := ∀ j, j < k → xs[j]?.getD 0 = ys[j]?.getD 0
theorem eqL_true {xs ys : List Int} (hl : xs.length = ys.length) (h : AlikeTo xs ys xs.length) : eqL xs ys = true := by
  refine decide_eq_true (List.ext_getElem hl fun j h1 h2 => ?_)
  have := h j h1
  rw [List.getElem?_eq_getElem h1, List.getElem?_eq_getElem h2] at this
  exact this
theorem eqL_false {xs ys : List Int} {k : Nat} (h : ¬ xs[k]?.getD 0 = ys[k]?.getD 0) : eqL xs ys = false := decide_eq_false fun e => h (by rw [e])
theorem eqL_len {xs ys : List Int} (h : xs.length ≠ ys.length) : eqL xs ys = false := decide_eq_false fun e => h (by rw [e])

attribute [local go_sem] eq_shape

end Go.Proofs.Ytkjanhcajopfhaa



/- The laws' helpers: sizes; two rings that read the same. -/
namespace Go.Proofs.Ytkjanhcajopfhaa
open Go.RowKit

end Go.Proofs.Ytkjanhcajopfhaa



/- The walk of the law FnExactRingValid. -/
namespace Go.Proofs.Ytkjanhcajopfhaa
open Go.RowKit

end Go.Proofs.Ytkjanhcajopfhaa



/- Memory that a call hands out: marked and held. -/
namespace Go.Proofs.Ytkjanhcajopfhaa
open Go.RowKit

/-- A slice of ints whose cells lie from block D on and may be written. -/
def Own (w : World) (D : Nat) (A : Option Addr) (n : Nat) (xs : List Int) : Prop :=
  xs.length = n ∧ (0 < n → ∃ g off, A = some ⟨g, off, none⟩ ∧ D ≤ g ∧ g < w.heap.size ∧ ∀ k, k < n → w.cell? ⟨g, off + k, none⟩ = some (.int .i64 (xs[k]?.getD 0)) ∧ w.frozen? ⟨g, off + k, none⟩ = false)
/-- A place lies in a slice. -/
def InS (A : Option Addr) (n : Nat) (p : Addr) : Prop := ∃ g off k, A = some ⟨g, off, none⟩ ∧ k < n ∧ p = ⟨g, off + k, none⟩
/-- Two slices share no place. -/
def Apart (A : Option Addr) (n : Nat) (B : Option Addr) (m : Nat) : Prop := ∀ p, InS A n p → ¬ InS B m p
/-- Nothing has turned but the places of a slice. -/
def ButIn (w w' : World) (A : Option Addr) (n : Nat) : Prop := w'.heap.size = w.heap.size ∧ ∀ p, ¬ InS A n p → w'.cell? p = w.cell? p ∧ w'.frozen? p = w.frozen? p

theorem Own.ints {w : World} {D n : Nat} {A : Option Addr} {xs : List Int} (h : Own w D A n xs) : Ints w w.heap.size A n xs :=
  ⟨h.1, fun hn => by
    obtain ⟨g, off, e, _, hg, hc⟩ := h.2 hn
    refine ⟨g, off, e, hg, fun k x hx => ?_⟩
    have hk : k < n := by
      rcases Nat.lt_or_ge k n with h1 | h1
      · exact h1
      · rw [List.getElem?_eq_none (by have := h.1; omega)] at hx; cases hx
    rw [(hc k hk).1, hx]; rfl⟩
theorem Own.next {w w' : World} {D n : Nat} {A : Option Addr} {xs : List Int} (h : Own w D A n xs) (hb : Below w.heap.size w w') : Own w' D A n xs :=
  ⟨h.1, fun hn => by
    obtain ⟨g, off, e, hD, hg, hc⟩ := h.2 hn
    exact ⟨g, off, e, hD, Nat.lt_of_lt_of_le hg hb.size, fun k hk => ⟨(hb.cell hg).trans (hc k hk).1, (hb.frozen hg).trans (hc k hk).2⟩⟩⟩
theorem Own.kept {w w' : World} {D n m : Nat} {A B : Option Addr} {xs : List Int} (h : Own w D A n xs) (hb : ButIn w w' B m) (ha : Apart A n B m) : Own w' D A n xs :=
  ⟨h.1, fun hn => by
    obtain ⟨g, off, e, hD, hg, hc⟩ := h.2 hn
    refine ⟨g, off, e, hD, by rw [hb.1]; exact hg, fun k hk => ?_⟩
    have := hb.2 ⟨g, off + k, none⟩ (ha _ ⟨g, off, k, e, hk, rfl⟩)
    exact ⟨this.1.trans (hc k hk).1, this.2.trans (hc k hk).2⟩⟩
theorem own_of_row {w : World} {base g cap n : Nat} {xs : List Int} {T : TypeId} (h : w.ownsRow base T 1 (.slice (some ⟨g, 0, none⟩) n cap) n (xs.map (.int .i64))) (hn : xs.length = n) : Own w base (some ⟨g, 0, none⟩) n xs :=
  ⟨hn, fun h0 => ⟨g, 0, rfl, (h.lt g rfl).1, (h.lt g rfl).2, fun k hk => by
    refine ⟨?_, by rw [Nat.zero_add]; exact h.frozenAt k⟩
    rw [Nat.zero_add, h.cellAt k (by omega), List.getElem?_map, List.getElem?_eq_getElem (by omega)]; rfl⟩⟩
theorem Own.nil {w : World} {D : Nat} {A : Option Addr} : Own w D A 0 [] := ⟨rfl, fun h => absurd h (by omega)⟩

end Go.Proofs.Ytkjanhcajopfhaa



/- Lists that a call hands out: own memory; what the marks of a ring leave of them. -/
namespace Go.Proofs.Ytkjanhcajopfhaa
open Go.RowKit

/-- A list whose memory is the call's own. -/
def SliceOut (D : Nat) (w : World) (v : Value) (Z : List Int) : Prop := ∃ (A : Option Addr) (l c : Nat), v = .slice A l c ∧ Own w D A l Z ∧ l ≤ c ∧ l ≤ 1048570
theorem SliceOut.nil {D : Nat} {w : World} : SliceOut D w (.slice none 0 0) [] := ⟨none, 0, 0, rfl, Own.nil, Nat.le_refl _, by omega⟩
theorem SliceOut.next {D : Nat} {w w' : World} {v : Value} {Z : List Int} (h : SliceOut D w v Z) (hb : Below w.heap.size w w') : SliceOut D w' v Z := by
  obtain ⟨A, l, c, e, h1, h2⟩ := h
  exact ⟨A, l, c, e, h1.next hb, h2⟩
theorem Own.down {w : World} {D D' n : Nat} {A : Option Addr} {xs : List Int} (h : Own w D A n xs) (hD : D' ≤ D) : Own w D' A n xs :=
  ⟨h.1, fun hn => by
    obtain ⟨g, off, e, h1, h2⟩ := h.2 hn
    exact ⟨g, off, e, Nat.le_trans hD h1, h2⟩⟩
theorem SliceOut.down {D D' : Nat} {w : World} {v : Value} {Z : List Int} (h : SliceOut D w v Z) (hD : D' ≤ D) : SliceOut D' w v Z := by
  obtain ⟨A, l, c, e, h1, h2⟩ := h
  exact ⟨A, l, c, e, h1.down hD, h2⟩
theorem SliceOut.of_row {D n : Nat} {w : World} {v : Value} {Z : List Int} {T : TypeId} (h : w.ownsRow D T 1 v n (Z.map (.int .i64))) (hn : Z.length = n) (hl : n ≤ 1048570) : SliceOut D w v Z := by
  rcases h.2 with ⟨rfl, h0⟩ | ⟨g, cap, cur, rfl, _, _, hc, _⟩
  · subst h0
    obtain rfl := List.eq_nil_of_length_eq_zero hn
    exact SliceOut.nil
  · exact ⟨_, _, _, rfl, own_of_row h hn, hc, hl⟩
/-- What the marks of a ring leave of another list. -/
theorem Own.marked {w w' : World} {D n g1 g2 k1 k2 : Nat} {A : Option Addr} {xs : List Int} (h : Own w D A n xs) (hs : w.heap.size ≤ w'.heap.size)
    (hk : ∀ p : Addr, p.block < w.heap.size → ¬ InS (some ⟨g1, 0, none⟩) k1 p → ¬ InS (some ⟨g2, 0, none⟩) k2 p → w'.cell? p = w.cell? p ∧ w'.frozen? p = w.frozen? p) (h1 : g1 < D) (h2 : g2 < D) : Own w' D A n xs :=
  ⟨h.1, fun hn => by
    obtain ⟨g, off, e, hD, hg, hc⟩ := h.2 hn
    refine ⟨g, off, e, hD, Nat.lt_of_lt_of_le hg hs, fun k hkn => ?_⟩
    have := hk ⟨g, off + k, none⟩ hg (fun ⟨g', off', j, e', _, ep⟩ => by
        simp only [Option.some.injEq, Addr.mk.injEq, and_true] at e' ep
        omega) (fun ⟨g', off', j, e', _, ep⟩ => by
        simp only [Option.some.injEq, Addr.mk.injEq, and_true] at e' ep
        omega)
    exact ⟨this.1.trans (hc k hkn).1, this.2.trans (hc k hkn).2⟩⟩
end Go.Proofs.Ytkjanhcajopfhaa



/- The text of a table: appendTable. -/
namespace Go.Proofs.Ytkjanhcajopfhaa
open Go.RowKit

/-- The digit of an element. -/
def dig (t : Nat) : UInt8 := #[48, 49, 50, 51, 52, 53, 54, 55, 56, 57, 97, 98, 99, 100, 101, 102].getD t 48
theorem dig_at (t : Nat) (h : t < 16) : ({ data := #[48, 49, 50, 51, 52, 53, 54, 55, 56, 57, 97, 98, 99, 100, 101, 102] } : ByteArray)[t]'h = dig t := by
  have g : ∀ t : Fin 16, (#[48, 49, 50, 51, 52, 53, 54, 55, 56, 57, 97, 98, 99, 100, 101, 102] : Array UInt8)[t.val]'t.isLt = dig t.val := by decide
  exact g ⟨t, h⟩
theorem Blk.grown {w w' : World} {g : Nat} {t : TypeId} {cs : Array Value} {row : Option Nat} (h : Blk w g t cs) (hb : w.grownBy w' row) (hg : some g ≠ row) : Blk w' g t cs := (hb.block g h.lt hg).trans h
theorem own_none (v : Value) : v.ownBlock = none ∨ v.ownBlock ≠ none := by
  cases v.ownBlock <;> simp

end Go.Proofs.Ytkjanhcajopfhaa



/- The text of a ring: FormatRing. -/
namespace Go.Proofs.Ytkjanhcajopfhaa
open Go.RowKit

/-- A literal slice of bytes owns its cells. -/
theorem own_literal {w : World} {base : Nat} {e : TypeId} (l : List Value) (hb : base ≤ w.heap.size) (hl : l.length ≤ maxLen) :
    (w.alloc (.cells l.toArray e)).ownsRow base e 1 (.slice (some ⟨w.heap.size, 0, none⟩) l.length l.length) l.length l :=
  ⟨by simp, .inr ⟨w.heap.size, l.length, l.toArray, rfl, hb, heap_alloc_new w _, Nat.le_refl _, hl, by simp, by simp⟩⟩
attribute [local go_sem] dig_at

theorem below_of_eq {P : Program} {f : FuncId} {args : Array Value} {w : World} {v : Value} (h : Calls P f args w fun e w' => e = .returned v ∧ w = w') : Calls P f args w fun e w' => e = .returned v ∧ Below w.heap.size w w' :=
  h.mono fun _ _ ⟨he, hw⟩ => ⟨he, by subst hw; exact Below.refl _ _⟩

end Go.Proofs.Ytkjanhcajopfhaa



/- Plain facts: what follows from the laws of a ring given by tables: sums, opposites, repeated sums, powers. No program in sight. -/
namespace Go.Proofs.Ytkjanhcajopfhaa
open Go.RowKit

/-- Tables of a ring. -/
structure RTab (m : Nat) (S P : Nat → Nat) (e : Nat) : Prop where
  hm : 1 ≤ m
  he : e < m
  sl : ∀ k, k < m * m → S k < m
  pl : ∀ k, k < m * m → P k < m
  s : OpLaw m S 0
  p : OpLaw m P e
  n : NegLaw m S
  d : DistLaw m S P
theorem rtab_of_valid {m e : Nat} {X Y : List Int} (h : validB m e X Y = true) : RTab m (tabOf X) (tabOf Y) e := by
  unfold validB at h
  rw [Bool.and_eq_true] at h
  obtain ⟨hf, hl⟩ := h
  obtain ⟨m', e', em, ee, h1, h2, h3, _, _, tX, tY⟩ := fits_data hf
  have em' : m = m' := by omega
  have ee' : e = e' := by omega
  subst em' ee'
  simp only [Int.toNat_natCast] at hl
  obtain ⟨l1, l2, l3, l4⟩ := laws_iff.1 hl
  exact ⟨h1, h3, fun k hk => (tX k hk).2, fun k hk => (tY k hk).2, l1, l2, l3, l4⟩

theorem idx_data {xs : List Int} {v : Int} {c : Nat} (h : idx xs v = c) : c < xs.length ∧ xs[c]?.getD 0 = v := by
  unfold idx at h
  split at h
  · rename_i hl
    have h1 := List.findIdx_getElem (w := hl)
    have h2 : xs[xs.findIdx (· == v)] = v := by simpa using h1
    have e : xs.findIdx (· == v) = c := by omega
    subst e
    refine ⟨hl, ?_⟩
    rw [List.getElem?_eq_getElem hl]
    exact h2
  · omega
section
variable {m e : Nat} {S P : Nat → Nat}
theorem RTab.sc (R : RTab m S P e) {a b : Nat} (ha : a < m) (hb : b < m) : S (a * m + b) < m := R.sl _ (idx_lt ha hb)
theorem RTab.pc (R : RTab m S P e) {a b : Nat} (ha : a < m) (hb : b < m) : P (a * m + b) < m := R.pl _ (idx_lt ha hb)
theorem RTab.z (R : RTab m S P e) : 0 < m := R.hm
/-- Sums and products as operations. -/
def RTab.A (R : RTab m S P e) (a b : Fin m) : Fin m := ⟨S (a.1 * m + b.1), R.sc a.2 b.2⟩
def RTab.M (R : RTab m S P e) (a b : Fin m) : Fin m := ⟨P (a.1 * m + b.1), R.pc a.2 b.2⟩
def RTab.o (R : RTab m S P e) : Fin m := ⟨e, R.he⟩
def RTab.t (R : RTab m S P e) : Fin m := ⟨0, R.hm⟩
theorem RTab.Ac (R : RTab m S P e) (a b : Fin m) : R.A a b = R.A b a := Fin.ext (R.s.comm a.2 b.2)
theorem RTab.Mc (R : RTab m S P e) (a b : Fin m) : R.M a b = R.M b a := Fin.ext (R.p.comm a.2 b.2)
theorem RTab.Aa (R : RTab m S P e) (a b c : Fin m) : R.A (R.A a b) c = R.A a (R.A b c) := Fin.ext (R.s.assoc a.2 b.2 c.2)
theorem RTab.Ma (R : RTab m S P e) (a b c : Fin m) : R.M (R.M a b) c = R.M a (R.M b c) := Fin.ext (R.p.assoc a.2 b.2 c.2)
theorem RTab.MA (R : RTab m S P e) (a b c : Fin m) : R.M a (R.A b c) = R.A (R.M a b) (R.M a c) := Fin.ext (R.d a.1 a.2 b.1 b.2 c.1 c.2)
theorem RTab.AM (R : RTab m S P e) (a b c : Fin m) : R.M (R.A a b) c = R.A (R.M a c) (R.M b c) := by rw [R.Mc, R.MA, R.Mc c a, R.Mc c b]
theorem RTab.A0 (R : RTab m S P e) (a : Fin m) : R.A a R.t = a := Fin.ext (R.s.zero a.2)
theorem RTab.Z0 (R : RTab m S P e) (a : Fin m) : R.A R.t a = a := by rw [R.Ac, R.A0]
theorem RTab.M1 (R : RTab m S P e) (a : Fin m) : R.M a R.o = a := Fin.ext (R.p.zero a.2)
theorem RTab.O1 (R : RTab m S P e) (a : Fin m) : R.M R.o a = a := by rw [R.Mc, R.M1]
theorem RTab.inj (R : RTab m S P e) {a b c : Fin m} (h : R.A a c = R.A b c) : a = b := Fin.ext (sum_inj R.s R.n c.2 a.2 b.2 (congrArg Fin.val h))
theorem RTab.injL (R : RTab m S P e) {a b c : Fin m} (h : R.A c a = R.A c b) : a = b := R.inj (c := c) (by rw [R.Ac a, R.Ac b]; exact h)
theorem RTab.M0 (R : RTab m S P e) (a : Fin m) : R.M a R.t = R.t := by
  have h := R.MA a R.t R.t
  rw [R.A0] at h
  exact (R.injL (c := R.M a R.t) (by rw [R.A0]; exact h)).symm
theorem RTab.T0 (R : RTab m S P e) (a : Fin m) : R.M R.t a = R.t := by rw [R.Mc, R.M0]
/-- The opposite. -/
theorem RTab.negEx (R : RTab m S P e) {a : Nat} (ha : a < m) : ∃ c, c < m ∧ negN m S a = c ∧ S (a * m + c) = 0 := by
  have h := R.n a ha
  have h0 : 0 ≤ negN m S a := idx_nonneg.2 h
  obtain ⟨c, hc⟩ := Int.eq_ofNat_of_zero_le h0
  obtain ⟨hc', hg⟩ := idx_data hc
  rw [rowL_length] at hc'
  rw [rowL_get hc'] at hg
  exact ⟨c, hc', hc, by omega⟩
/-- Repeated sums. -/
theorem RTab.seq_lt (R : RTab m S P e) {a : Nat} (ha : a < m) (k : Nat) : seqT m S a k < m := seqT_lt R.sl R.hm ha k
theorem RTab.seq_add (R : RTab m S P e) {a : Nat} (ha : a < m) (i : Nat) : ∀ j, seqT m S a (i + j) = S (seqT m S a i * m + seqT m S a j)
  | 0 => (R.s.zero (R.seq_lt ha i)).symm
  | j + 1 => by
    show S (seqT m S a (i + j) * m + a) = S (seqT m S a i * m + S (seqT m S a j * m + a))
    rw [R.seq_add ha i j]
    exact R.s.assoc (R.seq_lt ha i) (R.seq_lt ha j) ha
theorem RTab.ord (R : RTab m S P e) {a : Nat} (ha : a < m) : IsOrd m S a (ordN m S a) := ordN_spec R.sl R.s R.n R.hm ha
theorem RTab.seq_ords (R : RTab m S P e) {a : Nat} (ha : a < m) : ∀ q, seqT m S a (ordN m S a * q) = 0
  | 0 => rfl
  | q + 1 => by
    rw [Nat.mul_succ, R.seq_add ha, R.seq_ords ha q, (R.ord ha).2.2.1]
    exact R.s.zero R.hm
theorem RTab.seq_mod (R : RTab m S P e) {a : Nat} (ha : a < m) (k : Nat) : seqT m S a (k % ordN m S a) = seqT m S a k := by
  have h := R.seq_add ha (ordN m S a * (k / ordN m S a)) (k % ordN m S a)
  rw [Nat.div_add_mod, R.seq_ords ha, R.s.comm R.hm (R.seq_lt ha _), R.s.zero (R.seq_lt ha _)] at h
  exact h.symm
theorem cnt_emod {n : Int} {d : Nat} (hd : 1 ≤ d) : (cntN n d : Int) = n % d := by
  obtain ⟨_, _, _, h, _⟩ := cnt_facts (n := n) hd
  rw [← h]
  have : n.tmod d = n - d * n.tdiv d := by
    have := Int.mul_tdiv_add_tmod n d
    omega
  rw [this]
  have e1 : n - d * n.tdiv d + d = n + d * (1 - n.tdiv d) := by
    rw [Int.mul_sub, Int.mul_one]
    omega
  rw [e1, Int.add_mul_emod_self_left]
/-- So many times: only the remainder by a multiple of the order counts. -/
theorem RTab.seq_emod (R : RTab m S P e) {a i j : Nat} (ha : a < m) (h : (i : Int) % (ordN m S a : Nat) = (j : Int) % (ordN m S a : Nat)) : seqT m S a i = seqT m S a j := by
  rw [← R.seq_mod ha i, ← R.seq_mod ha j]
  congr 1
  omega
end


section
variable {m e : Nat} {S P : Nat → Nat}
end

end Go.Proofs.Ytkjanhcajopfhaa



/- Plain facts: lists that part into blocks of one size; the characteristic divides the size. No program in sight. -/
namespace Go.Proofs.Ytkjanhcajopfhaa
open Go.RowKit

section
variable {m e : Nat} {S P : Nat → Nat}
end

end Go.Proofs.Ytkjanhcajopfhaa



/- Drawn laws: contracts over a ring that lies in a world. -/
namespace Go.Proofs.Ytkjanhcajopfhaa
open Go.RowKit
set_option maxRecDepth 100000

/-- A ring lies in a world, valid or not. -/
structure RIn (w : World) (A : Option Addr) (la ca : Nat) (B : Option Addr) (lb cb : Nat) (X Y : List Int) : Prop where
  hX : Ints w w.heap.size A la X
  hY : Ints w w.heap.size B lb Y
  hla : la ≤ 9223372036854775807
  hlb : lb ≤ 9223372036854775807
  hca : la ≤ ca
  hcb : lb ≤ cb
theorem RIn.next {w w' : World} {A B : Option Addr} {la ca lb cb : Nat} {X Y : List Int} (h : RIn w A la ca B lb cb X Y) (hb : Below w.heap.size w w') : RIn w' A la ca B lb cb X Y :=
  ⟨h.hX.next hb, h.hY.next hb, h.hla, h.hlb, h.hca, h.hcb⟩
section
variable {n o : Int} {A B : Option Addr} {la ca lb cb : Nat} {X Y : List Int} {w : World}
end

section
variable {m e : Nat} {X Y : List Int}
end

end Go.Proofs.Ytkjanhcajopfhaa

