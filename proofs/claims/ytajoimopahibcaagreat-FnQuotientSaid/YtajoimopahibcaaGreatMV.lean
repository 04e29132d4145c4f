/- Texts of this seat in one: PY PZ QA QB QC QD QE. -/
import Derived.Test.YtajoimopahibcaaGreatMR
import Derived.Test.YtajoimopahibcaaGreatMS
import Derived.Test.YtajoimopahibcaaGreatMQ
import Derived.Test.YtajoimopahibcaaGreatMU
import Derived.Test.YtajoimopahibcaaGreatMB

/- The members of a class of a quotient. -/
namespace Go.Proofs.YtajoimopahibcaaGreat
open Go.RowKit Go.Shelf
set_option maxRecDepth 100000

set_option maxHeartbeats 4000000 in
theorem mem1_any {m e b1 o1 la ca b2 o2 lb cb i l i' l' bm : Nat} {vC : Value} {f : Nat → Option (Nat × Nat)} (gQ gC a : Nat) (w : World) (hQ : Blk w gQ 82 #[.int .i64 m, .int .i64 e, .slice (some ⟨b1, o1, none⟩) la ca, .slice (some ⟨b2, o2, none⟩) lb cb, vC, .map (some bm)]) (hC : Blk w gC 89 #[.int .i64 (i : Int), .int .i64 (l : Int)]) (hM : MapC 300 w bm f) (ha : a ≤ 1000000) (hf : f a = some (i', l')) :
    Calls Tryz.prog 111 (#[.int .i64 a] ++ #[.pointer (some ⟨gQ, 0, none⟩), .pointer (some ⟨gC, 0, none⟩)]) w fun e' w' => e' = .returned (.bool ((i' : Int) == (i : Int) && (l' : Int) == (l : Int))) ∧ w = w' := by
  show Calls Tryz.prog 111 #[.int .i64 a, .pointer (some ⟨gQ, 0, none⟩), .pointer (some ⟨gC, 0, none⟩)] w _
  have hrun := hM.get ha hf
  have c5 := hQ.cell 5
  have d0 := hC.cell 0
  have d1 := hC.cell 1
  simp only [List.getElem?_toArray, List.getElem?_cons_zero, List.getElem?_cons_succ] at c5 d0 d1
  clear hM hQ hC hf
  go_enter Tryz.func111, Tryz.ntmps111
  go_wp2
  all_goals (go_ret; refine ⟨?_, rfl⟩; simp; first | omega | (intro h; omega))

theorem RTab.mem_test {m e : Nat} {S P : Nat → Nat} {p : Nat → Bool} (R : RTab m S P e) (hp : Idl m S P p) {i a : Nat} (hi : i < (leas m S p m).length) (ha : a < m) :
    ((namK m S p m a : Int) == (i : Int) && ((((leas m S p m)[namK m S p m a]?).getD 0 : Nat) : Int) == ((((leas m S p m)[i]?).getD 0 : Nat) : Int)) = cosB m S p (((leas m S p m)[i]?).getD 0) a := by
  have e1 : ((leas m S p m)[i]?).getD 0 = (leas m S p m)[i] := by rw [List.getElem?_eq_getElem hi]; rfl
  obtain ⟨h1, h2⟩ := nam_get (m := m) (S := S) (p := p) (k := m) (x := a) (R.don_all hp ha)
  cases hc : cosB m S p (((leas m S p m)[i]?).getD 0) a
  · by_cases hn : namK m S p m a = i
    · subst hn
      rw [e1] at hc
      rw [h2] at hc
      cases hc
    · have : ((namK m S p m a : Int) == (i : Int)) = false := by simp; omega
      rw [this]
      rfl
  · rw [e1] at hc
    have hn := R.nam_uniq hp (Nat.le_refl m) hi hc
    rw [hn]
    simp

set_option maxHeartbeats 8000000 in
theorem members_any {m e b1 o1 la ca b2 o2 lb cb bm i l : Nat} {S P : Nat → Nat} {p : Nat → Bool} {vC : Value} (w : World) (hM : MapC 300 w bm (fmC m S p m)) (R : RTab m S P e) (hp : Idl m S P p) (hm' : m ≤ 16) (hi : i < (leas m S p m).length) (hl : ((leas m S p m)[i]?).getD 0 = l) :
    Calls Tryz.prog 75 #[.agg #[.int .i64 m, .int .i64 e, .slice (some ⟨b1, o1, none⟩) la ca, .slice (some ⟨b2, o2, none⟩) lb cb, vC, .map (some bm)], .agg #[.int .i64 (i : Int), .int .i64 (l : Int)]] w fun e' w' => ∃ v, e' = .returned v ∧ w'.ownsRow w.heap.size 3 1 v (selTo m (cosB m S p l) m).length (finV (selTo m (cosB m S p l) m)) ∧ Below w.heap.size w w' := by
  obtain ⟨gQ, hgQ⟩ : ∃ g, w.heap.size = g := ⟨_, rfl⟩
  obtain ⟨W, hW⟩ : ∃ W, (w.alloc (.cells #[.int .i64 m, .int .i64 e, .slice (some ⟨b1, o1, none⟩) la ca, .slice (some ⟨b2, o2, none⟩) lb cb, vC, .map (some bm)] 82)).alloc (.cells #[.int .i64 (i : Int), .int .i64 (l : Int)] 89) = W := ⟨_, rfl⟩
  have k0 : Blk W gQ 82 #[.int .i64 m, .int .i64 e, .slice (some ⟨b1, o1, none⟩) la ca, .slice (some ⟨b2, o2, none⟩) lb cb, vC, .map (some bm)] := by subst hW hgQ; exact (Blk.new w _ _).alloc _
  have k1 : Blk W (gQ + 1) 89 #[.int .i64 (i : Int), .int .i64 (l : Int)] := by
    subst hW hgQ
    have := Blk.new (w.alloc (.cells #[.int .i64 m, .int .i64 e, .slice (some ⟨b1, o1, none⟩) la ca, .slice (some ⟨b2, o2, none⟩) lb cb, vC, .map (some bm)] 82)) 89 #[.int .i64 (i : Int), .int .i64 (l : Int)]
    rw [World.size_alloc] at this
    exact this
  have b0 : Below w.heap.size w W := by subst hW; exact ((Below.refl _ _).alloc (Nat.le_refl _) _).alloc (by simp) _
  have d0 := k0.cell 0
  have d1 := k0.cell 1
  have d2 := k0.cell 2
  have d3 := k0.cell 3
  simp only [List.getElem?_toArray, List.getElem?_cons_zero, List.getElem?_cons_succ] at d0 d1 d2 d3
  have HM0 := Lib.hid (hM.next b0)
  have K0 := Lib.hid k0
  have K1 := Lib.hid k1
  have HW := Lib.hid hW
  have HG := Lib.hid hgQ
  have HLL := Lib.hid hl
  have B0 := Lib.hid b0
  have szW := b0.size
  clear hM hW b0 k0 k1 hl
  rw [hgQ] at szW
  clear hgQ
  have EGR := Lib.hid (enters_of Tryz.func111 (by kernel_rfl) rfl)
  have EG := Lib.hid (enters_of Tryz.func106 (by kernel_rfl) rfl)
  go_enter Tryz.func75, Tryz.ntmps75
  go_upto_region 1 with (fail)
  rw [HW.out, HG.out]
  go_wp2_with (fail)
  refine (where2_any m e _ _ la ca lb cb 111 #[.pointer (some ⟨gQ, 0, none⟩), .pointer (some ⟨gQ + 1, 0, none⟩)] W).mono ?_
  rintro e6 w6 ⟨rfl, hB1, hB2, hb6⟩
  have K06 := Lib.hid (K0.out.next hb6)
  have K16 := Lib.hid (K1.out.next hb6)
  have HM6 := Lib.hid (HM0.out.next hb6)
  have B6 := Lib.hid (below_step B0.out hb6)
  have SQ := Lib.hid (where2_B w6.heap.size m _ (cosB m S p l) _ _ w6 hm' EGR.out hB1 rfl hB2 (Nat.le_refl _) (fun a ha V hV => by
    have hd := R.mem_test hp hi ha
    rw [HLL.out] at hd
    rw [← hd]
    refine (mem1_any gQ (gQ + 1) a V (K06.out.next hV) (K16.out.next hV) (HM6.out.next hV) (by omega) (fm_some (R.don_all hp ha))).mono ?_
    rintro _ _ ⟨rfl, rfl⟩
    exact ⟨rfl, Below.refl _ _⟩))
  have hs6 := B6.out.size
  clear hb6 hB1 hB2 d0 d1 d2 d3
  go_wp2_with (go_at_call 67; refine (collect_any m _ w6.heap.size m _ _ _ w6 EG.out SQ.out (by omega) (Nat.le_refl _)).mono ?_; rintro e7 w7 ⟨v, rfl, ho, hb7⟩; have B7 := Lib.hid (below_step B6.out hb7); have HO := Lib.hid ho; clear hb7 ho)
  go_ret
  exact ⟨v, rfl, own_base HO.out hs6, B7.out⟩

end Go.Proofs.YtajoimopahibcaaGreat



/- ClassesOf of the program: slices of slices none of which share a place. -/
namespace Go.Proofs.YtajoimopahibcaaGreat
open Go.RowKit Go.Shelf
set_option maxRecDepth 100000

/-- No two of these slices lie in one block. -/
def LLp (xs : List Value) : Prop := ∀ (i j : Nat) (B : Option Addr) (l c : Nat) (B' : Option Addr) (l' c' : Nat), i ≠ j → xs[i]? = some (Value.slice B l c) → xs[j]? = some (Value.slice B' l' c') → ∀ (g off g' off' : Nat), 0 < l → 0 < l' → B = some ⟨g, off, none⟩ → B' = some ⟨g', off', none⟩ → g ≠ g'
/-- A slice of slices of ints of the call's own, each in a block of its own. -/
def LLq (D : Nat) (w : World) (v : Value) (ZZ : List (List Int)) : Prop := ∃ xs, w.ownsRow D 23 1 v ZZ.length xs ∧ LLs D w v.ownBlock xs ZZ ∧ LLp xs
theorem LLq.next {D : Nat} {w w' : World} {v : Value} {ZZ : List (List Int)} (h : LLq D w v ZZ) (hb : Below w.heap.size w w') : LLq D w' v ZZ := by
  obtain ⟨xs, h1, h2, h3⟩ := h
  exact ⟨xs, own_nextK h1 hb, h2.next hb, h3⟩
theorem LLq.down {D D' : Nat} {w : World} {v : Value} {ZZ : List (List Int)} (h : LLq D w v ZZ) (hD : D' ≤ D) : LLq D' w v ZZ := by
  obtain ⟨xs, h1, h2, h3⟩ := h
  exact ⟨xs, own_base h1 hD, ⟨h2.1, fun i Z hZ => by obtain ⟨B, l, c, e1, e2, e3⟩ := h2.2 i Z hZ; exact ⟨B, l, c, e1, e2.down hD, e3⟩⟩, h3⟩
theorem LLq.lists {D : Nat} {w : World} {v : Value} {ZZ : List (List Int)} (h : LLq D w v ZZ) : LLo D w v ZZ := by
  obtain ⟨xs, h1, h2, _⟩ := h
  exact ⟨xs, h1, h2⟩
theorem LLq.nil {D : Nat} {w : World} : LLq D w (.slice none 0 0) [] := ⟨[], ⟨by simp, .inl ⟨rfl, rfl⟩⟩, ⟨rfl, fun i Z hZ => by simp at hZ⟩, fun i j B l c B' l' c' _ h => by simp at h⟩
theorem LLs.more {D l c : Nat} {w w' : World} {v v' : Value} {xs : List Value} {ZZ : List (List Int)} {Z : List Int} {B : Option Addr} {o : Obj} (h : LLs D w v.ownBlock xs ZZ) (hB : Own w D B l Z) (hl : l ≤ c) (hl' : l ≤ 1048570)
    (hap : ∀ g off, 0 < l → B = some ⟨g, off, none⟩ → v.ownBlock ≠ some g) (hg : (w.alloc o).grownBy w' v.ownBlock) (hloc : v'.ownBlock = v.ownBlock ∨ v'.ownBlock = some (w.alloc o).heap.size) : LLs D w' v'.ownBlock (xs ++ [.slice B l c]) (ZZ ++ [Z]) := by
  have hg0 : w.grownBy w' v.ownBlock := ⟨hg.os, hg.tape, hg.output, Nat.le_trans (by simp) hg.size, fun k hk hr => (hg.block k (by simp; omega) hr).trans (Below.heap_alloc w o k hk)⟩
  have new : ∀ {B : Option Addr} {n : Nat} {Z : List Int}, Own w D B n Z → (∀ g off, 0 < n → B = some ⟨g, off, none⟩ → v.ownBlock ≠ some g) → ∀ g off, 0 < n → B = some ⟨g, off, none⟩ → v'.ownBlock ≠ some g := fun {B n Z} hO hA g off hn e e' => by
    rcases hloc with h1 | h1
    · exact hA g off hn e (h1 ▸ e')
    · obtain ⟨g2, off2, e2, _, hlt, _⟩ := hO.2 hn
      rw [e] at e2
      simp only [Option.some.injEq, Addr.mk.injEq, and_true] at e2
      rw [h1] at e'
      simp at e'
      omega
  refine ⟨by simp [h.1], fun i Y hY => ?_⟩
  rcases Nat.lt_or_ge i ZZ.length with hi | hi
  · rw [List.getElem?_append_left hi] at hY
    obtain ⟨B1, l1, c1, e1, e2, e3, e4, e5⟩ := h.2 i Y hY
    exact ⟨B1, l1, c1, by rw [List.getElem?_append_left (by rw [h.1]; exact hi)]; exact e1, e2.grown_ hg0 e5, e3, e4, new e2 e5⟩
  · rw [List.getElem?_append_right hi] at hY
    have e0 : i - ZZ.length = 0 := by
      have := (List.getElem?_eq_some_iff.1 hY).1
      simp at this
      omega
    rw [e0] at hY
    simp at hY
    subst hY
    refine ⟨B, l, c, ?_, hB.grown_ hg0 hap, hl, hl', new hB hap⟩
    rw [List.getElem?_append_right (by rw [h.1]; exact hi), h.1, e0]
    rfl
/-- What was there lies below. -/
theorem LLs.old {D : Nat} {w : World} {row : Option Nat} {xs : List Value} {ZZ : List (List Int)} (h : LLs D w row xs ZZ) : ∀ (i : Nat) (B : Option Addr) (l c g off : Nat), xs[i]? = some (Value.slice B l c) → 0 < l → B = some ⟨g, off, none⟩ → g < w.heap.size := fun i B l c g off hx hl e => by
  have hi : i < ZZ.length := by rw [← h.1]; exact (List.getElem?_eq_some_iff.1 hx).1
  obtain ⟨B1, l1, c1, e1, e2, _⟩ := h.2 i _ (List.getElem?_eq_getElem hi)
  rw [hx] at e1
  simp only [Option.some.injEq, Value.slice.injEq] at e1
  obtain ⟨rfl, rfl, rfl⟩ := e1
  obtain ⟨g2, off2, e3, _, hlt, _⟩ := e2.2 hl
  rw [e] at e3
  simp only [Option.some.injEq, Addr.mk.injEq, and_true] at e3
  omega
theorem LLp.more {xs : List Value} {E l c : Nat} {B : Option Addr} (h : LLp xs) (ho : ∀ (i : Nat) (B : Option Addr) (l c g off : Nat), xs[i]? = some (Value.slice B l c) → 0 < l → B = some ⟨g, off, none⟩ → g < E) (hn : ∀ g off, 0 < l → B = some ⟨g, off, none⟩ → E ≤ g) : LLp (xs ++ [.slice B l c]) := by
  have last : ∀ {i : Nat} {B1 : Option Addr} {l1 c1 : Nat}, ¬ i < xs.length → (xs ++ [Value.slice B l c])[i]? = some (Value.slice B1 l1 c1) → i = xs.length ∧ B1 = B ∧ l1 = l := fun {i B1 l1 c1} hi hx => by
    rw [List.getElem?_append_right (by omega)] at hx
    have e0 : i - xs.length = 0 := by
      have := (List.getElem?_eq_some_iff.1 hx).1
      simp at this
      omega
    rw [e0] at hx
    simp at hx
    exact ⟨by omega, hx.1.symm, hx.2.1.symm⟩
  intro i j B1 l1 c1 B2 l2 c2 hij h1 h2 g off g' off' hl1 hl2 e1 e2
  by_cases hi : i < xs.length
  · rw [List.getElem?_append_left hi] at h1
    by_cases hj : j < xs.length
    · rw [List.getElem?_append_left hj] at h2
      exact h i j B1 l1 c1 B2 l2 c2 hij h1 h2 g off g' off' hl1 hl2 e1 e2
    · obtain ⟨_, rfl, rfl⟩ := last hj h2
      have := ho i B1 l1 c1 g off h1 hl1 e1
      have := hn g' off' hl2 e2
      omega
  · obtain ⟨hi2, rfl, rfl⟩ := last hi h1
    by_cases hj : j < xs.length
    · rw [List.getElem?_append_left hj] at h2
      have := ho j B2 l2 c2 g' off' h2 hl2 e2
      have := hn g off hl1 e1
      omega
    · obtain ⟨hj2, _⟩ := last hj h2
      omega

theorem clsV_get0 {l : List Nat} : ∀ {i : Nat}, i < l.length → (clsV l)[i * 2]? = some (.int .i64 (i : Int)) := by
  intro i hi
  obtain ⟨k, hk⟩ : ∃ k, l.length = k := ⟨_, rfl⟩
  induction k generalizing l with
  | zero => omega
  | succ k ih =>
    obtain ⟨l', a, rfl⟩ : ∃ l' a, l = l' ++ [a] := by
      have hne : l ≠ [] := fun e => by subst e; simp at hk
      exact ⟨l.dropLast, l.getLast hne, (List.dropLast_concat_getLast hne).symm⟩
    have hl : l'.length = k := by simpa using hk
    rw [clsV_snoc]
    by_cases h2 : i < l'.length
    · rw [List.getElem?_append_left (by rw [clsV_len]; omega), ih h2 hl]
    · have e1 : i = l'.length := by simp at hi; omega
      subst e1
      rw [List.getElem?_append_right (by rw [clsV_len]; omega), clsV_len]
      simp

end Go.Proofs.YtajoimopahibcaaGreat



/- ClassesOf of the program. -/
namespace Go.Proofs.YtajoimopahibcaaGreat
open Go.RowKit Go.Shelf
set_option maxRecDepth 100000

/-- The lists of the classes. -/
noncomputable def clssL (n o : Int) (X Y L : List Int) : List (List Int) := if isIdB n o X Y L = true then clsL n.toNat (tabOf X) (setL L) n.toNat else []
theorem clss_no {n o : Int} {X Y L : List Int} (h : isIdB n o X Y L = false) : clssL n o X Y L = [] := if_neg (by rw [h]; simp)
theorem clss_yes {n o : Int} {X Y L : List Int} (h : isIdB n o X Y L = true) : clssL n o X Y L = clsL n.toNat (tabOf X) (setL L) n.toNat := if_pos h
theorem cls_one {m : Nat} {S : Nat → Nat} {p : Nat → Bool} {y l : Nat} {LS : List Nat} (hy : y < LS.length) (hl : (LS[y]?).getD 0 = l) : ((LS.take (y + 1)).map fun a => lstP m (cosB m S p a)) = ((LS.take y).map fun a => lstP m (cosB m S p a)) ++ [lstP m (cosB m S p l)] := by
  rw [List.take_succ_eq_append_getElem hy, List.map_append, List.map_singleton]
  rw [List.getElem?_eq_getElem hy] at hl
  rw [show LS[y] = l from hl]

set_option maxHeartbeats 8000000 in
theorem cls_any (n o : Int) (A B C : Option Addr) (la ca lb cb len cap : Nat) (X Y L : List Int) (w : World) (hX : Ints w w.heap.size A la X) (hY : Ints w w.heap.size B lb Y) (hL : Ints w w.heap.size C len L) (hla : la ≤ 9223372036854775807) (hlb : lb ≤ 9223372036854775807) (hlen : len ≤ 9223372036854775807) (hca : la ≤ ca) (hcb : lb ≤ cb) :
    Calls Tryz.prog 26 #[.agg #[.int .i64 n, .int .i64 o, .slice A la ca, .slice B lb cb], .slice C len cap] w fun e' w' => ∃ v, e' = .returned (.tuple #[v, .bool (isIdB n o X Y L)]) ∧ LLq w.heap.size w' v (clssL n o X Y L) ∧ Below w.heap.size w w' := by
  obtain ⟨i0, hi, hz0, hz1, hz2⟩ := info_parts sl_info
  obtain ⟨W, hW⟩ : ∃ W, w.alloc (.cells #[.int .i64 n, .int .i64 o, .slice A la ca, .slice B lb cb] 25) = W := ⟨_, rfl⟩
  have k0 : Blk W w.heap.size 25 #[.int .i64 n, .int .i64 o, .slice A la ca, .slice B lb cb] := by
    subst hW; exact Blk.new w _ _
  have b0 : Below w.heap.size w W := by
    subst hW; exact (Below.refl _ _).alloc (Nat.le_refl _) _
  obtain ⟨c0, c1, c2, c3⟩ := blk4 k0
  have HX0 := Lib.hid hX
  have HY0 := Lib.hid hY
  have HL0 := Lib.hid hL
  have B0 := Lib.hid b0
  have HW := Lib.hid hW
  have hs0 := k0.lt
  clear hX hY hL b0 hW k0
  cases hl : isIdB n o X Y L
  · have HLL := Lib.hid hl
    clear hl
    go_enter Tryz.func26, Tryz.ntmps26
    go_wp2_with (fail)
    rw [HW.out]
    refine (quotientOf_no n o A B C la ca lb cb len cap X Y L W HLL.out (HX0.out.next B0.out) (HY0.out.next B0.out) (HL0.out.next B0.out) hla hlb hlen hca hcb).mono ?_
    rintro e1 w1 ⟨rfl, hb1⟩
    have B1 := Lib.hid (below_step B0.out hb1)
    have sz1 := B1.out.size
    clear hb1 c0 c1 c2 c3
    go_wp2
    go_ret2
    refine ⟨.slice none 0 0, rfl, ?_, B1.out.alloc sz1 _⟩
    rw [clss_no HLL.out]
    exact LLq.nil
  · obtain ⟨m, e, b1, o1, b2, o2, rfl, rfl, rfl, rfl, hr, _, _, _, _, _⟩ := valid_data (ide_data (isId_ide hl)).1 HX0.out HY0.out hca hcb
    obtain ⟨hv, hpI, hpL⟩ := isId_data hl
    have R := rtab_of_valid hv
    obtain ⟨p, hp⟩ : ∃ p, setL L = p := ⟨_, rfl⟩
    rw [hp] at hpL hpI
    have HPP := Lib.hid hp
    have HPI := Lib.hid hpI
    have HR0 := Lib.hid hr
    have hm' := hr.hm'
    have HLL := Lib.hid hl
    have HZL := Lib.hid (show clssL m e X Y L = (leas m (tabOf X) p m).map fun a => lstP m (cosB m (tabOf X) p a) by rw [clss_yes hl, Int.toNat_natCast, hp]; rfl)
    clear hpL hp hr hv hpI hl
    go_enter Tryz.func26, Tryz.ntmps26
    go_wp2_with (fail)
    rw [HW.out]
    refine (quotientOf_yes C len cap X Y L W p m e b1 o1 la ca b2 o2 lb cb HLL.out HPP.out (HR0.out.next B0.out) R HPI.out (HX0.out.next B0.out) (HY0.out.next B0.out) (HL0.out.next B0.out) hla hlb hlen hca hcb).mono ?_
    rintro e1 w1 ⟨mv, rfl, hQ, hb1⟩
    obtain ⟨vC, bm, rfl, hC, hM, _⟩ := hQ
    obtain ⟨LS, hLS⟩ : ∃ x, leas m (tabOf X) p m = x := ⟨_, rfl⟩
    have HLS := Lib.hid hLS
    rw [hLS] at hC
    have ls16 : LS.length ≤ 16 := by rw [← hLS]; exact Nat.le_trans (leas_len m) hm'
    have hf0 : 0 < LS.length := by rw [← hLS]; exact R.cnt_pos HPI.out
    obtain ⟨gC, cC, e1, hgC⟩ : ∃ g c, vC = .slice (some ⟨g, 0, none⟩) LS.length c ∧ ∃ cur, Blk w1 g 89 cur ∧ cur.toList.take (LS.length * 2) = clsV LS := by
      rcases hC.2 with ⟨_, h2⟩ | ⟨g, cap, cur, h1, _, h3, _, _, _, h6⟩
      · omega
      · exact ⟨g, cap, h1, cur, h3, h6⟩
    subst e1
    obtain ⟨cur, hcB, hcT⟩ := hgC
    obtain ⟨nl, hnl⟩ : ∃ x, LS.length = x := ⟨_, rfl⟩
    have HNL := Lib.hid hnl
    have B1 := Lib.hid (below_step B0.out hb1)
    have sz1 := B1.out.size
    have HM1 := Lib.hid hM
    have HCB := Lib.hid hcB
    have HCT := Lib.hid hcT
    rw [hnl]
    rw [hnl] at ls16 hf0
    have lgC := hcB.lt
    unfold quoC
    clear hb1 c0 c1 c2 c3 hC hM hnl hLS hcB hcT
    go_upto_region 2 with (fail)
    obtain ⟨gQ, hgQ⟩ : ∃ g, w1.heap.size = g := ⟨_, rfl⟩
    obtain ⟨V, hV⟩ : ∃ V, w1.alloc (.cells #[.int .i64 m, .int .i64 e, .slice (some ⟨b1, o1, none⟩) la ca, .slice (some ⟨b2, o2, none⟩) lb cb, .slice (some ⟨gC, 0, none⟩) nl cC, .map (some bm)] 82) = V := ⟨_, rfl⟩
    have bV : Below w1.heap.size w1 V := by subst hV; exact (Below.refl _ _).alloc (Nat.le_refl _) _
    have kV : Blk V gQ 82 #[.int .i64 m, .int .i64 e, .slice (some ⟨b1, o1, none⟩) la ca, .slice (some ⟨b2, o2, none⟩) lb cb, .slice (some ⟨gC, 0, none⟩) nl cC, .map (some bm)] := by subst hV hgQ; exact Blk.new w1 _ _
    rw [hV, hgQ]
    have B2 := Lib.hid (below_step B1.out bV)
    have HM2 := Lib.hid (HM1.out.next bV)
    have HC2 := Lib.hid (HCB.out.next bV)
    have KQ := Lib.hid kV
    have lQ := kV.lt
    have lC := (HCB.out.next bV).lt
    have hi6 := z6_info (cs := #[.int .i64 m, .int .i64 e, .slice (some ⟨b1, o1, none⟩) la ca, .slice (some ⟨b2, o2, none⟩) lb cb, .slice (some ⟨gC, 0, none⟩) nl cC, .map (some bm)]) rfl
    have d4 := kV.cell 4
    simp only [List.getElem?_toArray, List.getElem?_cons_zero, List.getElem?_cons_succ] at d4
    have s2 := B2.out.size
    obtain ⟨Bs, hBs⟩ : ∃ b, V.heap.size = b := ⟨_, rfl⟩
    have HBS := Lib.hid hBs
    rw [hBs] at lQ lC s2
    have OE := Lib.hid (LLq.nil (D := Bs) (w := V))
    clear bV hV kV hgQ hBs
    go_wp2
    go_loopg [8, 22] nl (fun g2 vs vi wr => ∃ y : Nat, y ≤ nl ∧ nl ≤ y + g2 ∧ vi = .int .i64 y ∧ LLq Bs wr vs ((LS.take y).map fun a => lstP m (cosB m (tabOf X) p a)) ∧ Below Bs V wr)
    case atStart => exact ⟨0, Nat.zero_le _, by omega, rfl, by rw [List.take_zero, List.map_nil]; exact OE.out, Below.refl _ _⟩
    case round =>
      obtain ⟨y, hy, hg2, rfl, hown, hb⟩ := hrel
      have hsz : Bs ≤ wr.heap.size := by rw [← HBS.out]; exact hb.size
      have OW := Lib.hid hown
      have BW := Lib.hid hb
      have KW := Lib.hid ((hb.block gQ lQ).trans KQ.out)
      have HCW := Lib.hid ((hb.block gC lC).trans HC2.out)
      have HMW := Lib.hid (HM2.out.next (HBS.out ▸ hb))
      clear hown hb
      by_cases hlt : y < nl
      · obtain ⟨l, hl⟩ : ∃ l, (LS[y]?).getD 0 = l := ⟨_, rfl⟩
        have HL := Lib.hid hl
        have hyl : y < LS.length := by rw [HNL.out]; exact hlt
        have hcur0 : cur[y * 2]? = some (.int .i64 (y : Int)) := by
          have e5 : cur.toList[y * 2]? = (clsV LS)[y * 2]? := by rw [← HCT.out, List.getElem?_take, if_pos (by omega)]
          rw [← Array.getElem?_toList, e5, clsV_get0 hyl]
        have hcur1 : cur[y * 2 + 1]? = some (.int .i64 (l : Int)) := by
          have e5 : cur.toList[y * 2 + 1]? = (clsV LS)[y * 2 + 1]? := by rw [← HCT.out, List.getElem?_take, if_pos (by omega)]
          rw [← Array.getElem?_toList, e5, clsV_get hyl, List.getD_eq_getElem?_getD, hl]
        have ce0 : wr.cell? ⟨gC, y * 2, none⟩ = some (.int .i64 (y : Int)) := (Blk.cell (show Blk wr gC 89 cur from HCW.out) _).trans hcur0
        have ce1 : wr.cell? ⟨gC, y * 2 + 1, none⟩ = some (.int .i64 (l : Int)) := (Blk.cell (show Blk wr gC 89 cur from HCW.out) _).trans hcur1
        clear hl hcur0 hcur1
        go_upto_region 8 with (fail)
        obtain ⟨Wc, hWc⟩ : ∃ Wc, wr.alloc (.cells #[.int .i64 (y : Int), .int .i64 (l : Int)] 89) = Wc := ⟨_, rfl⟩
        have bc : Below wr.heap.size wr Wc := by subst hWc; exact (Below.refl _ _).alloc (Nat.le_refl _) _
        have kc : Blk Wc wr.heap.size 89 #[.int .i64 (y : Int), .int .i64 (l : Int)] := by subst hWc; exact Blk.new wr _ _
        rw [hWc]
        have x0 := kc.cell 0
        have x1 := kc.cell 1
        simp only [List.getElem?_toArray, List.getElem?_cons_zero, List.getElem?_cons_succ] at x0 x1
        obtain ⟨ZZ, hZZ⟩ : ∃ Z, ((LS.take y).map fun a => lstP m (cosB m (tabOf X) p a)) = Z := ⟨_, rfl⟩
        have hzl : ZZ.length ≤ 16 := by rw [← hZZ, List.length_map, List.length_take]; omega
        have HZZ := Lib.hid hZZ
        have oq := OW.out.next bc
        rw [hZZ] at oq
        obtain ⟨xs, hx1, hx2, hx3⟩ := oq
        have HX1 := Lib.hid hx1
        have HX2 := Lib.hid hx2
        have HX3 := Lib.hid hx3
        have HX4 := Lib.hid hx2.old
        have BC := Lib.hid (BW.out.trans (bc.mono hsz))
        have HMc := Lib.hid (HMW.out.next bc)
        have KWc := Lib.hid (show Blk Wc gQ 82 #[.int .i64 m, .int .i64 e, .slice (some ⟨b1, o1, none⟩) la ca, .slice (some ⟨b2, o2, none⟩) lb cb, .slice (some ⟨gC, 0, none⟩) nl cC, .map (some bm)] from (bc.block gQ (by omega)).trans KW.out)
        have szc : Bs ≤ Wc.heap.size := by have := bc.size; omega
        clear bc kc hWc hZZ hx1 hx2 hx3 ce0 ce1
        go_wp2_with (refine wpList_load_row rfl 82 (.tmp 6) rfl gQ rfl _ #[.int .i64 m, .int .i64 e, .slice (some ⟨b1, o1, none⟩) la ca, .slice (some ⟨b2, o2, none⟩) lb cb, .slice (some ⟨gC, 0, none⟩) nl cC, .map (some bm)] (0, 0) _ KWc.out Tryz.underlying82 rfl hi6 ?_)
        refine (members_any (b1 := b1) (o1 := o1) (la := la) (ca := ca) (b2 := b2) (o2 := o2) (lb := lb) (cb := cb) (vC := .slice (some ⟨gC, 0, none⟩) nl cC) (i := y) (l := l) Wc HMc.out R HPI.out hm' (by rw [HLS.out]; exact hyl) (by rw [HLS.out]; exact HL.out)).mono ?_
        rintro e5 w5 ⟨v5, rfl, ho5, hb5⟩
        obtain ⟨B4, l4, q4, rfl, o4, n4, n5⟩ := sel_out ho5 rfl (Nat.le_trans (selTo_len m) hm')
        have O4 := Lib.hid o4
        have XO := Lib.hid (own_nextK HX1.out hb5)
        have LX := Lib.hid (HX2.out.next hb5)
        have B5 := Lib.hid (BC.out.trans (hb5.mono szc))
        have s5 : Bs ≤ w5.heap.size := by have := hb5.size; omega
        have wr2 : Below w5.heap.size w5 (w5.alloc (.cells #[.slice B4 l4 q4] 23)) := (Below.refl _ _).alloc (Nat.le_refl _) _
        clear hb5 o4 ho5
        go_wp2_with (at_builtin; refine wpList_append_own_at _ rfl _ _ 30 rfl Bs 23 i0 (.slice none 0 0) 1 24 Tryz.underlying30 hi hz0 hz1 hz2 rfl (by decide) _ _ _ rfl (XO.out.alloc _) ⟨w5.heap.size, 0, none⟩ 1 1 [.slice B4 l4 q4] rfl rfl (by intro i u hi; match i, hi with | 0, hi => simp at hi; subst hi; simp [Addr.add]) (by intro u hu; simp at hu; subst hu; rfl) (by unfold maxLen; omega) (by omega) (by simp; omega) ?_; intro v6 w6 hown6 hg6 _ hloc6; have HO6 := Lib.hid hown6; have HG6 := Lib.hid hg6; have HL6 := Lib.hid hloc6; have B6 := Lib.hid ((B5.out.trans (wr2.mono s5)).grown hg6 (Nat.le_trans s5 wr2.size) (fun k hk => (XO.out.lt k hk).1)); clear hown6 hg6 hloc6)
        go_roundg (nl - (y + 1))
        case measure => omega
        case rel =>
          refine ⟨y + 1, by omega, by omega, by go_num, ?_, B6.out⟩
          rw [cls_one hyl HL.out, HZZ.out]
          refine ⟨xs ++ [.slice B4 l4 q4], by simpa using HO6.out, LLs.more LX.out (O4.out.down szc) n4 n5 (fun g off hl e e' => ?_) HG6.out HL6.out, LLp.more HX3.out HX4.out (fun g off hl e => ?_)⟩
          · obtain ⟨g2, off2, e2, hge, _⟩ := O4.out.2 hl
            rw [e] at e2
            simp only [Option.some.injEq, Addr.mk.injEq, and_true] at e2
            have := (HX1.out.lt g e').2
            omega
          · obtain ⟨g2, off2, e2, hge, _⟩ := O4.out.2 hl
            rw [e] at e2
            simp only [Option.some.injEq, Addr.mk.injEq, and_true] at e2
            omega
      · have hym : y = nl := by omega
        subst hym
        go_wp2
        go_ret2
        refine ⟨_, rfl, ?_, B2.out.trans (BW.out.mono s2)⟩
        rw [HZL.out, HLS.out]
        have := OW.out.down s2
        rwa [List.take_of_length_le (by rw [HNL.out]; exact Nat.le_refl _)] at this

end Go.Proofs.YtajoimopahibcaaGreat



/- The reading side's copy of a slice of slices. -/
namespace Go.Proofs.YtajoimopahibcaaGreat
open Go.RowKit Go.Shelf
set_option maxRecDepth 100000

/-- A slice of slices of ints that can be read, none perhaps. -/
def LLr (w : World) (v : Value) (ZZ : List (List Int)) : Prop := ∃ A cap, v = .slice A ZZ.length cap ∧ ∀ (i : Nat) (Z : List Int), ZZ[i]? = some Z → ∃ (g : Nat) (B : Option Addr) (c : Nat), A = some ⟨g, 0, none⟩ ∧ g < w.heap.size ∧ w.cell? ⟨g, i, none⟩ = some (.slice B Z.length c) ∧ Z.length ≤ c ∧ Z.length ≤ 1048570 ∧ Ints w w.heap.size B Z.length Z
theorem LLr.next {w w' : World} {v : Value} {ZZ : List (List Int)} (h : LLr w v ZZ) (hb : Below w.heap.size w w') : LLr w' v ZZ := by
  obtain ⟨A, cap, e, h3⟩ := h
  refine ⟨A, cap, e, fun i Z hZ => ?_⟩
  obtain ⟨g, B, c, e0, h2, e1, e2, e3, e4⟩ := h3 i Z hZ
  exact ⟨g, B, c, e0, Nat.lt_of_lt_of_le h2 hb.size, (hb.cell (p := ⟨g, i, none⟩) h2).trans e1, e2, e3, e4.next hb⟩
theorem LLo.readr {D : Nat} {w : World} {v : Value} {ZZ : List (List Int)} (h : LLo D w v ZZ) : LLr w v ZZ := by
  by_cases hn : 1 ≤ ZZ.length
  · obtain ⟨g, cap, e, _, h2, h3⟩ := h.read hn
    refine ⟨_, cap, e, fun i Z hZ => ?_⟩
    obtain ⟨B, c, e1, e2, e3, e4⟩ := h3 i Z hZ
    exact ⟨g, B, c, rfl, h2, e1, e2, e3, e4⟩
  · have e0 : ZZ = [] := List.eq_nil_of_length_eq_zero (by omega)
    subst e0
    obtain ⟨xs, h1, _⟩ := h
    rcases h1.2 with ⟨e, _⟩ | ⟨g, cap, cur, e, _⟩
    · exact ⟨none, 0, e, fun i Z hZ => by simp at hZ⟩
    · exact ⟨_, cap, e, fun i Z hZ => by simp at hZ⟩

set_option maxHeartbeats 8000000 in
theorem l13OwnLL_any (v : Value) (ZZ : List (List Int)) (w : World) (hv : LLr w v ZZ) (hz : ZZ.length ≤ 100000) (hne : ∀ (i : Nat) (Z : List Int), ZZ[i]? = some Z → 0 < Z.length) :
    Calls Tryz.prog 77 #[v] w fun e' w' => ∃ v', e' = .returned v' ∧ LLo w.heap.size w' v' ZZ ∧ Below w.heap.size w w' := by
  obtain ⟨i0, hi, hz0, hz1, hz2⟩ := info_parts sl_info
  obtain ⟨j0, hj, hy0, hy1, hy2⟩ := info_parts int_info
  have HV := Lib.hid hv
  obtain ⟨A, cap, rfl, hA⟩ := hv
  obtain ⟨nl, hnl⟩ : ∃ x, ZZ.length = x := ⟨_, rfl⟩
  rw [hnl] at hz ⊢
  have HNL := Lib.hid hnl
  have HA := Lib.hid hA
  obtain ⟨W, hW⟩ : ∃ W, w.alloc (.cells #[] 23) = W := ⟨_, rfl⟩
  have b0 : Below w.heap.size w W := by subst hW; exact (Below.refl _ _).alloc (Nat.le_refl _) _
  have o0 : W.ownsRow w.heap.size 23 1 (.slice (some ⟨w.heap.size, 0, none⟩) 0 0) 0 [] := by
    subst hW
    have := own_lit_K (w := w) (base := w.heap.size) (e := 23) [] (Nat.le_refl _) (by unfold maxLen; simp)
    simpa using this
  have B0 := Lib.hid b0
  have O0 := Lib.hid o0
  have HW := Lib.hid hW
  clear hA hnl b0 o0 hW
  go_enter Tryz.func77, Tryz.ntmps77
  go_upto_region 2 with (fail)
  rw [HW.out]
  go_wp2
  go_loopg [3, 9] nl (fun g2 vs vi wr => ∃ y : Nat, y ≤ nl ∧ nl ≤ y + g2 ∧ vi = .int .i64 y ∧ LLo w.heap.size wr vs (ZZ.take y) ∧ Below w.heap.size w wr)
  case atStart => exact ⟨0, Nat.zero_le _, by omega, rfl, by rw [List.take_zero]; exact LLo.empty O0.out, B0.out⟩
  case round =>
    obtain ⟨y, hy, hg2, rfl, hown, hb⟩ := hrel
    have OW := Lib.hid hown
    have BW := Lib.hid hb
    have hsz := hb.size
    clear hown hb
    by_cases hlt : y < nl
    · obtain ⟨Z, hZ⟩ : ∃ Z, ZZ[y]? = some Z := ⟨_, List.getElem?_eq_getElem (by rw [HNL.out]; exact hlt)⟩
      obtain ⟨g, B, c, rfl, h2, hc, h4, h5, h6⟩ := HA.out y Z hZ
      have htk : ZZ.take (y + 1) = ZZ.take y ++ [Z] := by
        have hyl : y < ZZ.length := by rw [HNL.out]; exact hlt
        rw [List.getElem?_eq_getElem hyl] at hZ
        rw [List.take_succ_eq_append_getElem hyl]
        simp at hZ
        rw [hZ]
      have HTK := Lib.hid htk
      have hck : wr.cell? ⟨g, y, none⟩ = some (.slice B Z.length c) := (BW.out.cell (p := ⟨g, y, none⟩) h2).trans hc
      obtain ⟨ln, hln⟩ : ∃ x, Z.length = x := ⟨_, rfl⟩
      rw [hln] at hck h4 h5 h6
      have HLN := Lib.hid hln
      have H6 := Lib.hid h6
      obtain ⟨xs, hx1, hx2⟩ := OW.out
      have HX1 := Lib.hid hx1
      have HX2 := Lib.hid hx2
      have hzl : (ZZ.take y).length ≤ 100000 := by rw [List.length_take]; omega
      have hpos : 0 < ln := by rw [← hln]; exact hne y Z hZ
      obtain ⟨b', off', rfl, hb', hcs⟩ := h6.2 hpos
      have bc : Below wr.heap.size wr (wr.alloc (.cells #[] 3)) := (Below.refl _ _).alloc (Nat.le_refl _) _
      have OC := Lib.hid (show (wr.alloc (.cells #[] 3)).ownsRow wr.heap.size 3 1 (.slice (some ⟨wr.heap.size, 0, none⟩) 0 0) 0 [] by
        have := own_lit_K (w := wr) (base := wr.heap.size) (e := 3) [] (Nat.le_refl _) (by unfold maxLen; simp)
        simpa using this)
      have HNW := Lib.hid (show ∀ (j : Nat) (u : Value), (Z.map (Value.int .i64))[j]? = some u → (wr.alloc (.cells #[] 3)).cell? ((⟨b', off', none⟩ : Addr).add j) = some u from fun j u hu => by
        have hb2 : b' < wr.heap.size := Nat.lt_of_lt_of_le hb' hsz
        have hjl : j < Z.length := by
          have := (List.getElem?_eq_some_iff.1 hu).1
          simpa using this
        have e1 := (bc.cell (p := ⟨b', off' + j, none⟩) hb2).trans ((BW.out.cell (p := ⟨b', off' + j, none⟩) hb').trans (hcs j _ (List.getElem?_eq_getElem hjl)))
        rw [List.getElem?_map, List.getElem?_eq_getElem hjl] at hu
        simp at hu
        rw [show (⟨b', off', none⟩ : Addr).add j = ⟨b', off' + j, none⟩ from by unfold Addr.add; split <;> simp_all, ← hu]
        exact e1)
      have HBC := Lib.hid bc
      have HNL2 := Lib.hid (show (Z.map (Value.int .i64)).length = ln * 1 by simp [hln])
      have HOC := Lib.hid (show ∀ u ∈ Z.map (Value.int .i64), u.oneCell' = true from fun u hu => by
        rw [List.mem_map] at hu
        obtain ⟨z, _, rfl⟩ := hu
        rfl)
      obtain ⟨NW, hNW⟩ : ∃ x, Z.map (Value.int .i64) = x := ⟨_, rfl⟩
      rw [hNW] at HNW HNL2 HOC
      have HNWe := Lib.hid hNW
      clear hc hZ hln hx1 hx2 htk bc hcs hNW
      go_upto_region 5 with (fail)
      go_wp2_with (first
        | (at_builtin; refine wpList_append_own _ rfl _ _ 23 rfl wr.heap.size 3 j0 (.int .i64 0) 1 8 Tryz.underlying23 hj hy0 hy1 hy2 rfl (by decide) _ _ _ rfl OC.out ⟨b', off', none⟩ ln c NW rfl HNL2.out HNW.out HOC.out (by unfold maxLen; omega) (by omega) (by simp) ?_; intro v4 w4 hown4 hg4 _; have B4 := Lib.hid (HBC.out.grown hg4 HBC.out.size (fun k hk => (OC.out.lt k hk).1)); obtain ⟨A4, l4, q4, rfl, o4, n4, n5⟩ := SliceOut.of_row (Z := Z) (n := ln) (by rw [HNWe.out]; simpa using hown4) HLN.out h5; have O4 := Lib.hid o4; have XO := Lib.hid (own_nextK HX1.out B4.out); have LX := Lib.hid (HX2.out.next B4.out); have B5 := Lib.hid (BW.out.trans (B4.out.mono hsz)); have s5 := B4.out.size; clear hown4 hg4 o4)
        | (at_builtin; refine wpList_append_own_at _ rfl _ _ 30 rfl w.heap.size 23 i0 (.slice none 0 0) 1 24 Tryz.underlying30 hi hz0 hz1 hz2 rfl (by decide) _ _ _ rfl (XO.out.alloc _) ⟨w4.heap.size, 0, none⟩ 1 1 [.slice A4 l4 q4] rfl rfl (by intro i u hi; match i, hi with | 0, hi => simp at hi; subst hi; simp [Addr.add]) (by intro u hu; simp at hu; subst hu; rfl) (by unfold maxLen; omega) (by omega) (by simp; omega) ?_; intro v6 w6 hown6 hg6 _ hloc6; have HO6 := Lib.hid hown6; have HG6 := Lib.hid hg6; have HL6 := Lib.hid hloc6; have B6 := Lib.hid ((B5.out.alloc B5.out.size (.cells #[.slice A4 l4 q4] 23)).grown hg6 (Nat.le_trans B5.out.size (by simp)) (fun k hk => (XO.out.lt k hk).1)); clear hown6 hg6 hloc6))
      go_roundg (nl - (y + 1))
      case measure => omega
      case rel =>
        refine ⟨y + 1, by omega, by omega, by go_num, ?_, B6.out⟩
        rw [HTK.out]
        refine ⟨xs ++ [.slice A4 l4 q4], by simpa using HO6.out, LLs.more LX.out (O4.out.down hsz) n4 n5 (fun g off hl e e' => ?_) HG6.out HL6.out⟩
        obtain ⟨g2, off2, e2, hge, _⟩ := O4.out.2 hl
        rw [e] at e2
        simp only [Option.some.injEq, Addr.mk.injEq, and_true] at e2
        have := (HX1.out.lt _ e').2
        omega
    · have hym : y = nl := by omega
      subst hym
      go_wp2
      go_ret
      refine ⟨_, rfl, ?_, BW.out⟩
      have := OW.out
      rwa [List.take_of_length_le (by rw [HNL.out]; exact Nat.le_refl _)] at this

end Go.Proofs.YtajoimopahibcaaGreat



/- ClassesOf of the reading side. -/
namespace Go.Proofs.YtajoimopahibcaaGreat
open Go.RowKit Go.Shelf
set_option maxRecDepth 100000

theorem clss_some {n o : Int} {A B : Option Addr} {la ca lb cb : Nat} {X Y L : List Int} {w : World} (hX : Ints w w.heap.size A la X) (hY : Ints w w.heap.size B lb Y) (hca : la ≤ ca) (hcb : lb ≤ cb) : (clssL n o X Y L).length ≤ 16 ∧ ∀ (i : Nat) (Z : List Int), (clssL n o X Y L)[i]? = some Z → 0 < Z.length := by
  cases hl : isIdB n o X Y L
  · rw [clss_no hl]
    exact ⟨by simp, fun i Z h => by simp at h⟩
  · obtain ⟨m, e, b1, o1, b2, o2, rfl, rfl, rfl, rfl, hr, _, _, _, _, _⟩ := valid_data (ide_data (isId_ide hl)).1 hX hY hca hcb
    obtain ⟨hv, hpI, hpL⟩ := isId_data hl
    have R := rtab_of_valid hv
    rw [clss_yes hl, Int.toNat_natCast]
    unfold clsL
    refine ⟨by rw [List.length_map]; exact Nat.le_trans (leas_len m) hr.hm', fun i Z h => ?_⟩
    rw [List.getElem?_map, Option.map_eq_some_iff] at h
    obtain ⟨a, ha, rfl⟩ := h
    obtain ⟨t, ht⟩ := R.class_first hpI (List.mem_of_getElem? ha)
    rw [ht]
    simp

set_option maxHeartbeats 4000000 in
theorem sraw_any (n o : Int) (A B C : Option Addr) (la ca lb cb len cap : Nat) (X Y L : List Int) (w : World) (hX : Ints w w.heap.size A la X) (hY : Ints w w.heap.size B lb Y) (hL : Ints w w.heap.size C len L) (hla : la ≤ 9223372036854775807) (hlb : lb ≤ 9223372036854775807) (hlen : len ≤ 9223372036854775807) (hca : la ≤ ca) (hcb : lb ≤ cb) :
    Calls Tryz.prog 76 #[.agg #[.int .i64 n, .int .i64 o, .slice A la ca, .slice B lb cb], .slice C len cap] w fun e' w' => ∃ v, e' = .returned (.tuple #[v, .bool (isIdB n o X Y L)]) ∧ LLo w.heap.size w' v (clssL n o X Y L) ∧ Below w.heap.size w w' := by
  obtain ⟨W, hW⟩ : ∃ W, w.alloc (.cells #[.int .i64 n, .int .i64 o, .slice A la ca, .slice B lb cb] 25) = W := ⟨_, rfl⟩
  have k0 : Blk W w.heap.size 25 #[.int .i64 n, .int .i64 o, .slice A la ca, .slice B lb cb] := by
    subst hW; exact Blk.new w _ _
  have b0 : Below w.heap.size w W := by
    subst hW; exact (Below.refl _ _).alloc (Nat.le_refl _) _
  obtain ⟨c0, c1, c2, c3⟩ := blk4 k0
  have HX := Lib.hid (hX.next b0)
  have HY := Lib.hid (hY.next b0)
  have HL := Lib.hid (hL.next b0)
  have B0 := Lib.hid b0
  have HW := Lib.hid hW
  have K0 := Lib.hid k0
  cases hl : isIdB n o X Y L
  · have HLL := Lib.hid hl
    clear hX hY hL b0 hW k0 hl
    go_enter Tryz.func76, Tryz.ntmps76
    go_wp2_with (fail)
    rw [HW.out]
    refine (sisId_val HLL.out HX.out HY.out HL.out hla hlb hlen hca hcb).mono ?_
    rintro e1 w1 ⟨rfl, hb1⟩
    have B1 := Lib.hid (below_step B0.out hb1)
    have sz1 := B1.out.size
    have O1 := Lib.hid (show (w1.alloc (.cells #[] 23)).ownsRow w.heap.size 23 1 (.slice (some ⟨w1.heap.size, 0, none⟩) 0 0) 0 [] by
      have := own_lit_K (w := w1) (base := w.heap.size) (e := 23) [] sz1 (by unfold maxLen; simp)
      simpa using this)
    clear hb1 c0 c1 c2 c3
    go_wp2
    go_ret2
    refine ⟨_, rfl, ?_, B1.out.alloc sz1 _⟩
    rw [clss_no HLL.out]
    exact LLo.empty O1.out
  · obtain ⟨m, e, b1, o1, b2, o2, rfl, rfl, rfl, rfl, hr, _, _, _, _, _⟩ := valid_data (ide_data (isId_ide hl)).1 hX hY hca hcb
    obtain ⟨hv, hpI, hpL⟩ := isId_data hl
    have R := rtab_of_valid hv
    have HLL := Lib.hid hl
    have HPI := Lib.hid hpI
    have HRW := Lib.hid (hr.next b0)
    have HL1 := Lib.hid (show Ints W W.heap.size C len (lstP m (setL L)) by rw [← hpL]; exact hL.next b0)
    have HZL := Lib.hid (show clssL m e X Y L = clsL m (tabOf X) (setL L) m by rw [clss_yes hl, Int.toNat_natCast])
    clear hX hY hL b0 hW k0 hl hr hv hpI hpL
    go_enter Tryz.func76, Tryz.ntmps76
    go_wp2_with (fail)
    rw [HW.out]
    refine (sisId_val HLL.out HX.out HY.out HL.out hla hlb hlen hca hcb).mono ?_
    rintro e1 w1 ⟨rfl, hb1⟩
    have B1 := Lib.hid (below_step B0.out hb1)
    have sz1 := B1.out.size
    obtain ⟨d0, d1, d2, d3⟩ := blk4 (K0.out.next hb1)
    have RV := Lib.hid (HRW.out.next hb1)
    have IL := Lib.hid (HL1.out.next hb1)
    clear hb1 c0 c1 c2 c3
    go_wp2_with (fail)
    refine (l5Classes_any C len cap (setL L) m e b1 o1 la ca b2 o2 lb cb (tabOf X) (tabOf Y) w1 RV.out R HPI.out IL.out hlen).mono ?_
    rintro e2 w2 ⟨v, rfl, ho, hb2⟩
    have HO := Lib.hid ho
    have B2 := Lib.hid (below_step B1.out hb2)
    clear hb2 ho d0 d1 d2 d3
    go_wp2
    go_ret2
    refine ⟨v, rfl, ?_, B2.out⟩
    rw [HZL.out]
    obtain ⟨xs, h1, h2⟩ := HO.out
    exact ⟨xs, own_base h1 sz1, h2.1, fun i Z hZ => by obtain ⟨B, l, c, e1, e2, e3⟩ := h2.2 i Z hZ; exact ⟨B, l, c, e1, e2.down sz1, e3⟩⟩

set_option maxHeartbeats 4000000 in
theorem scls_any (n o : Int) (A B C : Option Addr) (la ca lb cb len cap : Nat) (X Y L : List Int) (w : World) (hX : Ints w w.heap.size A la X) (hY : Ints w w.heap.size B lb Y) (hL : Ints w w.heap.size C len L) (hla : la ≤ 9223372036854775807) (hlb : lb ≤ 9223372036854775807) (hlen : len ≤ 9223372036854775807) (hca : la ≤ ca) (hcb : lb ≤ cb) :
    Calls Tryz.prog 27 #[.agg #[.int .i64 n, .int .i64 o, .slice A la ca, .slice B lb cb], .slice C len cap] w fun e' w' => ∃ v, e' = .returned (.tuple #[v, .bool (isIdB n o X Y L)]) ∧ LLr w' v (clssL n o X Y L) ∧ Below w.heap.size w w' := by
  obtain ⟨W, hW⟩ : ∃ W, w.alloc (.cells #[.int .i64 n, .int .i64 o, .slice A la ca, .slice B lb cb] 25) = W := ⟨_, rfl⟩
  have k0 : Blk W w.heap.size 25 #[.int .i64 n, .int .i64 o, .slice A la ca, .slice B lb cb] := by
    subst hW; exact Blk.new w _ _
  have b0 : Below w.heap.size w W := by
    subst hW; exact (Below.refl _ _).alloc (Nat.le_refl _) _
  obtain ⟨c0, c1, c2, c3⟩ := blk4 k0
  obtain ⟨hz16, hzn⟩ := clss_some (n := n) (o := o) (L := L) hX hY hca hcb
  have HX := Lib.hid (hX.next b0)
  have HY := Lib.hid (hY.next b0)
  have HL := Lib.hid (hL.next b0)
  have B0 := Lib.hid b0
  have HW := Lib.hid hW
  have HZN := Lib.hid hzn
  obtain ⟨bL, hbL⟩ : ∃ b, isIdB n o X Y L = b := ⟨_, rfl⟩
  have RW := Lib.hid (hbL ▸ sraw_any n o A B C la ca lb cb len cap X Y L W HX.out HY.out HL.out hla hlb hlen hca hcb)
  rw [hbL]
  clear hX hY hL b0 hW k0 hzn hbL
  go_enter Tryz.func27, Tryz.ntmps27
  go_wp2_with (fail)
  rw [HW.out]
  refine RW.out.mono ?_
  rintro e1 w1 ⟨v, rfl, ho, hb1⟩
  have HO := Lib.hid ho.readr
  have B1 := Lib.hid (below_step B0.out hb1)
  clear hb1 ho c0 c1 c2 c3
  go_wp2_with (fail)
  refine (l13OwnLL_any v (clssL n o X Y L) w1 HO.out (by omega) HZN.out).mono ?_
  rintro e2 w2 ⟨v2, rfl, ho2, hb2⟩
  have HO2 := Lib.hid ho2.readr
  have B2 := Lib.hid (below_step B1.out hb2)
  clear hb2 ho2
  go_wp2
  go_ret2
  exact ⟨v2, rfl, HO2.out, B2.out⟩

end Go.Proofs.YtajoimopahibcaaGreat



/- Laws over slices of slices of ints: equal, marked, held. -/
namespace Go.Proofs.YtajoimopahibcaaGreat
open Go.RowKit Go.Shelf
set_option maxRecDepth 100000

/-- How many elements lie in the first lists. -/
def offN (ls : Nat → Nat) : Nat → Nat
  | 0 => 0
  | i + 1 => offN ls i + ls i
/-- A slice of slices of the call's own, by its lists' places. -/
def LLm (D n : Nat) (w : World) (A : Option Addr) (Bs : Nat → Option Addr) (cs ls : Nat → Nat) (F : Nat → List Int) : Prop :=
  ∀ i, i < n → ∃ g, A = some ⟨g, 0, none⟩ ∧ D ≤ g ∧ g < w.heap.size ∧ w.cell? ⟨g, i, none⟩ = some (.slice (Bs i) (ls i) (cs i)) ∧ ls i ≤ cs i ∧ ls i ≤ 1048570 ∧ Own w D (Bs i) (ls i) (F i) ∧ ∀ p : Addr, p.block = g → ¬ InS (Bs i) (ls i) p
theorem LLm.next {D n : Nat} {w w' : World} {A : Option Addr} {Bs : Nat → Option Addr} {cs ls : Nat → Nat} {F : Nat → List Int} (h : LLm D n w A Bs cs ls F) (hb : Below w.heap.size w w') : LLm D n w' A Bs cs ls F := fun i hi => by
  obtain ⟨g, e, h0, h1, h2, h3, h4, h5, h6⟩ := h i hi
  exact ⟨g, e, h0, Nat.lt_of_lt_of_le h1 hb.size, (hb.cell (p := ⟨g, i, none⟩) h1).trans h2, h3, h4, h5.next hb, h6⟩
theorem LLm.keep {D n : Nat} {w w' : World} {A : Option Addr} {Bs : Nat → Option Addr} {cs ls : Nat → Nat} {F : Nat → List Int} (h : LLm D n w A Bs cs ls F) (hs : w.heap.size ≤ w'.heap.size) (hk : ∀ p : Addr, D ≤ p.block → p.block < w.heap.size → w'.cell? p = w.cell? p ∧ w'.frozen? p = w.frozen? p) : LLm D n w' A Bs cs ls F := fun i hi => by
  obtain ⟨g, e, h0, h1, h2, h3, h4, h5, h6⟩ := h i hi
  exact ⟨g, e, h0, Nat.lt_of_lt_of_le h1 hs, (hk ⟨g, i, none⟩ h0 h1).1.trans h2, h3, h4, h5.keep hs hk, h6⟩

end Go.Proofs.YtajoimopahibcaaGreat



/- ClassesOf, on both sides, as the law wants it. -/
namespace Go.Proofs.YtajoimopahibcaaGreat
open Go.RowKit Go.Shelf
set_option maxRecDepth 100000

def fZ (ZZ : List (List Int)) (i : Nat) : List Int := (ZZ[i]?).getD []
def lsZ (ZZ : List (List Int)) (i : Nat) : Nat := (fZ ZZ i).length
theorem fZ_some {ZZ : List (List Int)} {i : Nat} {Z : List Int} (h : ZZ[i]? = some Z) : fZ ZZ i = Z := by unfold fZ; rw [h]; rfl
theorem fZ_get {ZZ : List (List Int)} {i : Nat} (h : i < ZZ.length) : ZZ[i]? = some (fZ ZZ i) := by unfold fZ; rw [List.getElem?_eq_getElem h]; rfl
/-- A slice of slices of the call's own, each in a block of its own, and short. -/
def LLF (D : Nat) (w : World) (v : Value) (ZZ : List (List Int)) : Prop :=
  ∃ (A : Option Addr) (cap : Nat) (Bs : Nat → Option Addr) (cs : Nat → Nat), v = .slice A ZZ.length cap ∧ LLm D ZZ.length w A Bs cs (lsZ ZZ) (fZ ZZ) ∧ (∀ i j, i < ZZ.length → j < ZZ.length → i ≠ j → Apart (Bs i) (lsZ ZZ i) (Bs j) (lsZ ZZ j)) ∧ ZZ.length ≤ 100000 ∧ offN (lsZ ZZ) ZZ.length ≤ 1048570
theorem LLm.readr {D : Nat} {w : World} {A : Option Addr} {Bs : Nat → Option Addr} {cs : Nat → Nat} {ZZ : List (List Int)} (cap : Nat) (h : LLm D ZZ.length w A Bs cs (lsZ ZZ) (fZ ZZ)) : LLr w (.slice A ZZ.length cap) ZZ :=
  ⟨A, cap, rfl, fun i Z hZ => by
    have hi : i < ZZ.length := (List.getElem?_eq_some_iff.1 hZ).1
    obtain ⟨g, e, _, h1, h2, h3, h4, h5, _⟩ := h i hi
    have e1 := fZ_some hZ
    have e2 : lsZ ZZ i = Z.length := by unfold lsZ; rw [e1]
    rw [e2] at h2 h3 h4 h5
    rw [e1] at h5
    exact ⟨g, Bs i, cs i, e, h1, h2, h3, h4, h5.ints⟩⟩
theorem LLm.marked {D n g1 g2 k1 k2 : Nat} {w w' : World} {A : Option Addr} {Bs : Nat → Option Addr} {cs ls : Nat → Nat} {F : Nat → List Int} (h : LLm D n w A Bs cs ls F) (hs : w.heap.size ≤ w'.heap.size)
    (hk : ∀ p : Addr, p.block < w.heap.size → ¬ InS (some ⟨g1, 0, none⟩) k1 p → ¬ InS (some ⟨g2, 0, none⟩) k2 p → w'.cell? p = w.cell? p ∧ w'.frozen? p = w.frozen? p) (h1 : g1 < D) (h2 : g2 < D) : LLm D n w' A Bs cs ls F :=
  h.keep hs fun p hD hp => hk p hp (not_inS (by omega)) (not_inS (by omega))
/-- Where the slice of a value lies, and how far it reaches. -/
def addrV : Value → Option Addr
  | .slice A _ _ => A
  | _ => none
def capV : Value → Nat
  | .slice _ _ c => c
  | _ => 0
theorem LLq.form {D : Nat} {w : World} {v : Value} {ZZ : List (List Int)} (h : LLq D w v ZZ) (h1 : ZZ.length ≤ 100000) (h2 : offN (lsZ ZZ) ZZ.length ≤ 1048570) : LLF D w v ZZ := by
  obtain ⟨xs, ho, hl, hp⟩ := h
  have at_ : ∀ i, i < ZZ.length → ∃ (B : Option Addr) (c : Nat), xs[i]? = some (Value.slice B (lsZ ZZ i) c) ∧ Own w D B (lsZ ZZ i) (fZ ZZ i) ∧ lsZ ZZ i ≤ c ∧ lsZ ZZ i ≤ 1048570 ∧ (∀ (g off : Nat), 0 < lsZ ZZ i → B = some ⟨g, off, none⟩ → v.ownBlock ≠ some g) ∧ addrV ((xs[i]?).getD undef) = B ∧ capV ((xs[i]?).getD undef) = c := fun i hi => by
    obtain ⟨B, l, c, e1, e2, e3, e4, e5⟩ := hl.2 i _ (fZ_get hi)
    have e6 : l = lsZ ZZ i := e2.1.symm
    subst e6
    exact ⟨B, c, e1, e2, e3, e4, e5, by rw [e1]; rfl, by rw [e1]; rfl⟩
  rcases ho.2 with ⟨hv, h0⟩ | ⟨g, cap, cur, hv, hg, hb, hc, _, hs, ht⟩
  · refine ⟨none, 0, fun _ => none, fun _ => 0, by rw [hv, h0], fun i hi => by omega, fun i j hi => by omega, h1, h2⟩
  · have hb' : Blk w g 23 cur := hb
    refine ⟨_, cap, fun i => addrV ((xs[i]?).getD undef), fun i => capV ((xs[i]?).getD undef), hv, fun i hi => ?_, fun i j hi hj hij => ?_, h1, h2⟩
    · obtain ⟨B, c, e1, e2, e3, e4, e5, e6, e7⟩ := at_ i hi
      show ∃ g', _
      simp only [e6, e7]
      refine ⟨g, rfl, hg, hb'.lt, ?_, e3, e4, e2, fun p hpg hin => ?_⟩
      · rw [hb'.cell i]
        have e8 : cur.toList[i]? = xs[i]? := by rw [← ht, List.getElem?_take]; simp; omega
        rw [← Array.getElem?_toList, e8, e1]
      · obtain ⟨g', off, k, e8, hk, rfl⟩ := hin
        have e9 : g' = g := hpg
        exact e5 g' off (by omega) e8 (by rw [hv, e9]; rfl)
    · obtain ⟨B, c, e1, _, _, _, _, e6, _⟩ := at_ i hi
      obtain ⟨B', c', e1', _, _, _, _, e6', _⟩ := at_ j hj
      show Apart (addrV ((xs[i]?).getD undef)) _ (addrV ((xs[j]?).getD undef)) _
      rw [e6, e6']
      rintro q ⟨g1, off1, k1, a1, a2, rfl⟩ ⟨g2, off2, k2, b1, b2, e⟩
      have := hp i j B _ c B' _ c' hij e1 e1' g1 off1 g2 off2 (by omega) (by omega) a1 b1
      simp only [Addr.mk.injEq] at e
      exact this e.1

end Go.Proofs.YtajoimopahibcaaGreat

