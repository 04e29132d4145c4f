/- Texts of this seat in one: PY PZ QA QB QC QD QE. -/
import Derived.Test.YtahdkdpliphcnaaMR
import Derived.Test.YtahdkdpliphcnaaMS
import Derived.Test.YtahdkdpliphcnaaMQ
import Derived.Test.YtahdkdpliphcnaaMU
import Derived.Test.YtahdkdpliphcnaaMB

/- The members of a class of a quotient. -/
namespace Go.Proofs.Ytahdkdpliphcnaa
open Go.RowKit Go.Shelf
set_option maxRecDepth 100000

end Go.Proofs.Ytahdkdpliphcnaa



/- ClassesOf of the program: slices of slices none of which share a place. -/
namespace Go.Proofs.Ytahdkdpliphcnaa
open Go.RowKit Go.Shelf
set_option maxRecDepth 100000

/-- No two of these slices lie in one block. -/
def LLp (xs : List Value) : Prop := ∀ (i j : Nat) (B : Option Addr) (l c : Nat) (B' : Option Addr) (l' c' : Nat), i ≠ j → xs[i]? = some (Value.slice B l c) → xs[j]? = some (Value.slice B' l' c') → ∀ (g off g' off' : Nat), 0 < l → 0 < l' → B = some ⟨g, off, none⟩ → B' = some ⟨g', off', none⟩ → g ≠ g'
/-- A slice of slices of ints of the call's own, each in a block of its own. -/
def LLq (D : Nat) (w : World) (v : Value) (ZZ : List (List Int)) : Prop := ∃ xs, w.ownsRow D 22 1 v ZZ.length xs ∧ LLs D w v.ownBlock xs ZZ ∧ LLp xs
theorem LLq.next {D : Nat} {w w' : World} {v : Value} {ZZ : List (List Int)} (h : LLq D w v ZZ) (hb : Below w.heap.size w w') : LLq D w' v ZZ := by
  obtain ⟨xs, h1, h2, h3⟩ := h
  exact ⟨xs, own_nextK h1 hb, h2.next hb, h3⟩
theorem LLq.down {D D' : Nat} {w : World} {v : Value} {ZZ : List (List Int)} (h : LLq D w v ZZ) (hD : D' ≤ D) : LLq D' w v ZZ := by
  obtain ⟨xs, h1, h2, h3⟩ := h
  exact ⟨xs, own_base h1 hD, ⟨h2.1, fun i Z hZ => by obtain ⟨B, l, c, e1, e2, e3⟩ := h2.2 i Z hZ; exact ⟨B, l, c, e1, e2.down hD, e3⟩⟩, h3⟩
theorem LLq.lists {D : Nat} {w : World} {v : Value} {ZZ : List (List Int)} (h : LLq D w v ZZ) : LLo D w v ZZ := by
  obtain ⟨xs, h1, h2, _⟩ := h
  exact ⟨xs, h1, h2⟩
theorem LLq.nil {D : Nat} {w : World} : LLq D w (.slice none 0 0) [] := ⟨[], ⟨by simp, .inl ⟨rfl, rfl⟩⟩, ⟨rfl, fun i Z hZ => by simp at hZ⟩, fun i j B l c B' l' c' _ h => by simp at h⟩
theorem LLs.more {D l c : Nat} {w w' : World} {v v' : Value} {xs : List Value} {ZZ : List (List Int)} {Z : List Int} {B : Option Addr} {o : Obj} (h : LLs D w v.ownBlock xs ZZ) (hB : Own w D B l Z) (hl : l ≤ c) (hl' : l ≤ 1048570)
    (hap : ∀ g off, 0 < l → B = some ⟨g, off, none⟩ → v.ownBlock ≠ some g) (hg : (w.alloc o).grownBy w' v.ownBlock) (hloc : v'.ownBlock = v.ownBlock ∨ v'.ownBlock = some (w.alloc o).heap.size) : LLs D w' v'.ownBlock (xs ++ [.slice B l c]) (ZZ ++ [Z]) := by
  have hg0 : w.grownBy w' v.ownBlock := ⟨hg.os, hg.tape, hg.output, Nat.le_trans (by simp) hg.size, fun k hk hr => (hg.block k (by simp; omega) hr).trans (Below.heap_alloc w o k hk)⟩
  have new : ∀ {B : Option Addr} {n : Nat} {Z : List Int}, Own w D B n Z → (∀ g off, 0 < n → B = some ⟨g, off, none⟩ → v.ownBlock ≠ some g) → ∀ g off, 0 < n → B = some ⟨g, off, none⟩ → v'.ownBlock ≠ some g := fun {B n Z} hO hA g off hn e e' => by
    rcases hloc with h1 | h1
    · exact hA g off hn e (h1 ▸ e')
    · obtain ⟨g2, off2, e2, _, hlt, _⟩ := hO.2 hn
      rw [e] at e2
      simp only [Option.some.injEq, Addr.mk.injEq, and_true] at e2
      rw [h1] at e'
      simp at e'
      omega
  refine ⟨by simp [h.1], fun i Y hY => ?_⟩
  rcases Nat.lt_or_ge i ZZ.length with hi | hi
  · rw [List.getElem?_append_left hi] at hY
    obtain ⟨B1, l1, c1, e1, e2, e3, e4, e5⟩ := h.2 i Y hY
    exact ⟨B1, l1, c1, by rw [List.getElem?_append_left (by rw [h.1]; exact hi)]; exact e1, e2.grown_ hg0 e5, e3, e4, new e2 e5⟩
  · rw [List.getElem?_append_right hi] at hY
    have e0 : i - ZZ.length = 0 := by
      have := (List.getElem?_eq_some_iff.1 hY).1
      simp at this
      omega
    rw [e0] at hY
    simp at hY
    subst hY
    refine ⟨B, l, c, ?_, hB.grown_ hg0 hap, hl, hl', new hB hap⟩
    rw [List.getElem?_append_right (by rw [h.1]; exact hi), h.1, e0]
    rfl
/-- What was there lies below. -/
theorem LLs.old {D : Nat} {w : World} {row : Option Nat} {xs : List Value} {ZZ : List (List Int)} (h : LLs D w row xs ZZ) : ∀ (i : Nat) (B : Option Addr) (l c g off : Nat), xs[i]? = some (Value.slice B l c) → 0 < l → B = some ⟨g, off, none⟩ → g < w.heap.size := fun i B l c g off hx hl e => by
  have hi : i < ZZ.length := by rw [← h.1]; exact (List.getElem?_eq_some_iff.1 hx).1
  obtain ⟨B1, l1, c1, e1, e2, _⟩ := h.2 i _ (List.getElem?_eq_getElem hi)
  rw [hx] at e1
  simp only [Option.some.injEq, Value.slice.injEq] at e1
  obtain ⟨rfl, rfl, rfl⟩ := e1
  obtain ⟨g2, off2, e3, _, hlt, _⟩ := e2.2 hl
  rw [e] at e3
  simp only [Option.some.injEq, Addr.mk.injEq, and_true] at e3
  omega
theorem LLp.more {xs : List Value} {E l c : Nat} {B : Option Addr} (h : LLp xs) (ho : ∀ (i : Nat) (B : Option Addr) (l c g off : Nat), xs[i]? = some (Value.slice B l c) → 0 < l → B = some ⟨g, off, none⟩ → g < E) (hn : ∀ g off, 0 < l → B = some ⟨g, off, none⟩ → E ≤ g) : LLp (xs ++ [.slice B l c]) := by
  have last : ∀ {i : Nat} {B1 : Option Addr} {l1 c1 : Nat}, ¬ i < xs.length → (xs ++ [Value.slice B l c])[i]? = some (Value.slice B1 l1 c1) → i = xs.length ∧ B1 = B ∧ l1 = l := fun {i B1 l1 c1} hi hx => by
    rw [List.getElem?_append_right (by omega)] at hx
    have e0 : i - xs.length = 0 := by
      have := (List.getElem?_eq_some_iff.1 hx).1
      simp at this
      omega
    rw [e0] at hx
    simp at hx
    exact ⟨by omega, hx.1.symm, hx.2.1.symm⟩
  intro i j B1 l1 c1 B2 l2 c2 hij h1 h2 g off g' off' hl1 hl2 e1 e2
  by_cases hi : i < xs.length
  · rw [List.getElem?_append_left hi] at h1
    by_cases hj : j < xs.length
    · rw [List.getElem?_append_left hj] at h2
      exact h i j B1 l1 c1 B2 l2 c2 hij h1 h2 g off g' off' hl1 hl2 e1 e2
    · obtain ⟨_, rfl, rfl⟩ := last hj h2
      have := ho i B1 l1 c1 g off h1 hl1 e1
      have := hn g' off' hl2 e2
      omega
  · obtain ⟨hi2, rfl, rfl⟩ := last hi h1
    by_cases hj : j < xs.length
    · rw [List.getElem?_append_left hj] at h2
      have := ho j B2 l2 c2 g' off' h2 hl2 e2
      have := hn g off hl1 e1
      omega
    · obtain ⟨hj2, _⟩ := last hj h2
      omega

end Go.Proofs.Ytahdkdpliphcnaa



/- ClassesOf of the program. -/
namespace Go.Proofs.Ytahdkdpliphcnaa
open Go.RowKit Go.Shelf
set_option maxRecDepth 100000

end Go.Proofs.Ytahdkdpliphcnaa



/- The reading side's copy of a slice of slices. -/
namespace Go.Proofs.Ytahdkdpliphcnaa
open Go.RowKit Go.Shelf
set_option maxRecDepth 100000

/-- A slice of slices of ints that can be read, none perhaps. -/
def LLr (w : World) (v : Value) (ZZ : List (List Int)) : Prop := ∃ A cap, v = .slice A ZZ.length cap ∧ ∀ (i : Nat) (Z : List Int), ZZ[i]? = some Z → ∃ (g : Nat) (B : Option Addr) (c : Nat), A = some ⟨g, 0, none⟩ ∧ g < w.heap.size ∧ w.cell? ⟨g, i, none⟩ = some (.slice B Z.length c) ∧ Z.length ≤ c ∧ Z.length ≤ 1048570 ∧ Ints w w.heap.size B Z.length Z
theorem LLr.next {w w' : World} {v : Value} {ZZ : List (List Int)} (h : LLr w v ZZ) (hb : Below w.heap.size w w') : LLr w' v ZZ := by
  obtain ⟨A, cap, e, h3⟩ := h
  refine ⟨A, cap, e, fun i Z hZ => ?_⟩
  obtain ⟨g, B, c, e0, h2, e1, e2, e3, e4⟩ := h3 i Z hZ
  exact ⟨g, B, c, e0, Nat.lt_of_lt_of_le h2 hb.size, (hb.cell (p := ⟨g, i, none⟩) h2).trans e1, e2, e3, e4.next hb⟩
theorem LLo.readr {D : Nat} {w : World} {v : Value} {ZZ : List (List Int)} (h : LLo D w v ZZ) : LLr w v ZZ := by
  by_cases hn : 1 ≤ ZZ.length
  · obtain ⟨g, cap, e, _, h2, h3⟩ := h.read hn
    refine ⟨_, cap, e, fun i Z hZ => ?_⟩
    obtain ⟨B, c, e1, e2, e3, e4⟩ := h3 i Z hZ
    exact ⟨g, B, c, rfl, h2, e1, e2, e3, e4⟩
  · have e0 : ZZ = [] := List.eq_nil_of_length_eq_zero (by omega)
    subst e0
    obtain ⟨xs, h1, _⟩ := h
    rcases h1.2 with ⟨e, _⟩ | ⟨g, cap, cur, e, _⟩
    · exact ⟨none, 0, e, fun i Z hZ => by simp at hZ⟩
    · exact ⟨_, cap, e, fun i Z hZ => by simp at hZ⟩

set_option maxHeartbeats 8000000 in
theorem l13OwnLL_any (v : Value) (ZZ : List (List Int)) (w : World) (hv : LLr w v ZZ) (hz : ZZ.length ≤ 100000) (hne : ∀ (i : Nat) (Z : List Int), ZZ[i]? = some Z → 0 < Z.length) :
    Calls Try.prog 50 #[v] w fun e' w' => ∃ v', e' = .returned v' ∧ LLo w.heap.size w' v' ZZ ∧ Below w.heap.size w w' := by
  obtain ⟨i0, hi, hz0, hz1, hz2⟩ := info_parts sl_info
  obtain ⟨j0, hj, hy0, hy1, hy2⟩ := info_parts int_info
  have HV := Lib.hid hv
  obtain ⟨A, cap, rfl, hA⟩ := hv
  obtain ⟨nl, hnl⟩ : ∃ x, ZZ.length = x := ⟨_, rfl⟩
  rw [hnl] at hz ⊢
  have HNL := Lib.hid hnl
  have HA := Lib.hid hA
  obtain ⟨W, hW⟩ : ∃ W, w.alloc (.cells #[] 22) = W := ⟨_, rfl⟩
  have b0 : Below w.heap.size w W := by subst hW; exact (Below.refl _ _).alloc (Nat.le_refl _) _
  have o0 : W.ownsRow w.heap.size 22 1 (.slice (some ⟨w.heap.size, 0, none⟩) 0 0) 0 [] := by
    subst hW
    have := own_lit_K (w := w) (base := w.heap.size) (e := 22) [] (Nat.le_refl _) (by unfold maxLen; simp)
    simpa using this
  have B0 := Lib.hid b0
  have O0 := Lib.hid o0
  have HW := Lib.hid hW
  clear hA hnl b0 o0 hW
  go_enter Try.func50, Try.ntmps50
  go_upto_region 2 with (fail)
  rw [HW.out]
  go_wp2
  go_loopg [3, 9] nl (fun g2 vs vi wr => ∃ y : Nat, y ≤ nl ∧ nl ≤ y + g2 ∧ vi = .int .i64 y ∧ LLo w.heap.size wr vs (ZZ.take y) ∧ Below w.heap.size w wr)
  case atStart => exact ⟨0, Nat.zero_le _, by omega, rfl, by rw [List.take_zero]; exact LLo.empty O0.out, B0.out⟩
  case round =>
    obtain ⟨y, hy, hg2, rfl, hown, hb⟩ := hrel
    have OW := Lib.hid hown
    have BW := Lib.hid hb
    have hsz := hb.size
    clear hown hb
    by_cases hlt : y < nl
    · obtain ⟨Z, hZ⟩ : ∃ Z, ZZ[y]? = some Z := ⟨_, List.getElem?_eq_getElem (by rw [HNL.out]; exact hlt)⟩
      obtain ⟨g, B, c, rfl, h2, hc, h4, h5, h6⟩ := HA.out y Z hZ
      have htk : ZZ.take (y + 1) = ZZ.take y ++ [Z] := by
        have hyl : y < ZZ.length := by rw [HNL.out]; exact hlt
        rw [List.getElem?_eq_getElem hyl] at hZ
        rw [List.take_succ_eq_append_getElem hyl]
        simp at hZ
        rw [hZ]
      have HTK := Lib.hid htk
      have hck : wr.cell? ⟨g, y, none⟩ = some (.slice B Z.length c) := (BW.out.cell (p := ⟨g, y, none⟩) h2).trans hc
      obtain ⟨ln, hln⟩ : ∃ x, Z.length = x := ⟨_, rfl⟩
      rw [hln] at hck h4 h5 h6
      have HLN := Lib.hid hln
      have H6 := Lib.hid h6
      obtain ⟨xs, hx1, hx2⟩ := OW.out
      have HX1 := Lib.hid hx1
      have HX2 := Lib.hid hx2
      have hzl : (ZZ.take y).length ≤ 100000 := by rw [List.length_take]; omega
      have hpos : 0 < ln := by rw [← hln]; exact hne y Z hZ
      obtain ⟨b', off', rfl, hb', hcs⟩ := h6.2 hpos
      have bc : Below wr.heap.size wr (wr.alloc (.cells #[] 3)) := (Below.refl _ _).alloc (Nat.le_refl _) _
      have OC := Lib.hid (show (wr.alloc (.cells #[] 3)).ownsRow wr.heap.size 3 1 (.slice (some ⟨wr.heap.size, 0, none⟩) 0 0) 0 [] by
        have := own_lit_K (w := wr) (base := wr.heap.size) (e := 3) [] (Nat.le_refl _) (by unfold maxLen; simp)
        simpa using this)
      have HNW := Lib.hid (show ∀ (j : Nat) (u : Value), (Z.map (Value.int .i64))[j]? = some u → (wr.alloc (.cells #[] 3)).cell? ((⟨b', off', none⟩ : Addr).add j) = some u from fun j u hu => by
        have hb2 : b' < wr.heap.size := Nat.lt_of_lt_of_le hb' hsz
        have hjl : j < Z.length := by
          have := (List.getElem?_eq_some_iff.1 hu).1
          simpa using this
        have e1 := (bc.cell (p := ⟨b', off' + j, none⟩) hb2).trans ((BW.out.cell (p := ⟨b', off' + j, none⟩) hb').trans (hcs j _ (List.getElem?_eq_getElem hjl)))
        rw [List.getElem?_map, List.getElem?_eq_getElem hjl] at hu
        simp at hu
        rw [show (⟨b', off', none⟩ : Addr).add j = ⟨b', off' + j, none⟩ from by unfold Addr.add; split <;> simp_all, ← hu]
        exact e1)
      have HBC := Lib.hid bc
      have HNL2 := Lib.hid (show (Z.map (Value.int .i64)).length = ln * 1 by simp [hln])
      have HOC := Lib.hid (show ∀ u ∈ Z.map (Value.int .i64), u.oneCell' = true from fun u hu => by
        rw [List.mem_map] at hu
        obtain ⟨z, _, rfl⟩ := hu
        rfl)
      obtain ⟨NW, hNW⟩ : ∃ x, Z.map (Value.int .i64) = x := ⟨_, rfl⟩
      rw [hNW] at HNW HNL2 HOC
      have HNWe := Lib.hid hNW
      clear hc hZ hln hx1 hx2 htk bc hcs hNW
      go_upto_region 5 with (fail)
      go_wp2_with (first
        | (at_builtin; refine wpList_append_own _ rfl _ _ 22 rfl wr.heap.size 3 j0 (.int .i64 0) 1 8 Try.underlying22 hj hy0 hy1 hy2 rfl (by decide) _ _ _ rfl OC.out ⟨b', off', none⟩ ln c NW rfl HNL2.out HNW.out HOC.out (by unfold maxLen; omega) (by omega) (by simp) ?_; intro v4 w4 hown4 hg4 _; have B4 := Lib.hid (HBC.out.grown hg4 HBC.out.size (fun k hk => (OC.out.lt k hk).1)); obtain ⟨A4, l4, q4, rfl, o4, n4, n5⟩ := SliceOut.of_row (Z := Z) (n := ln) (by rw [HNWe.out]; simpa using hown4) HLN.out h5; have O4 := Lib.hid o4; have XO := Lib.hid (own_nextK HX1.out B4.out); have LX := Lib.hid (HX2.out.next B4.out); have B5 := Lib.hid (BW.out.trans (B4.out.mono hsz)); have s5 := B4.out.size; clear hown4 hg4 o4)
        | (at_builtin; refine wpList_append_own_at _ rfl _ _ 35 rfl w.heap.size 22 i0 (.slice none 0 0) 1 24 Try.underlying35 hi hz0 hz1 hz2 rfl (by decide) _ _ _ rfl (XO.out.alloc _) ⟨w4.heap.size, 0, none⟩ 1 1 [.slice A4 l4 q4] rfl rfl (by intro i u hi; match i, hi with | 0, hi => simp at hi; subst hi; simp [Addr.add]) (by intro u hu; simp at hu; subst hu; rfl) (by unfold maxLen; omega) (by omega) (by simp; omega) ?_; intro v6 w6 hown6 hg6 _ hloc6; have HO6 := Lib.hid hown6; have HG6 := Lib.hid hg6; have HL6 := Lib.hid hloc6; have B6 := Lib.hid ((B5.out.alloc B5.out.size (.cells #[.slice A4 l4 q4] 22)).grown hg6 (Nat.le_trans B5.out.size (by simp)) (fun k hk => (XO.out.lt k hk).1)); clear hown6 hg6 hloc6))
      go_roundg (nl - (y + 1))
      case measure => omega
      case rel =>
        refine ⟨y + 1, by omega, by omega, by go_num, ?_, B6.out⟩
        rw [HTK.out]
        refine ⟨xs ++ [.slice A4 l4 q4], by simpa using HO6.out, LLs.more LX.out (O4.out.down hsz) n4 n5 (fun g off hl e e' => ?_) HG6.out HL6.out⟩
        obtain ⟨g2, off2, e2, hge, _⟩ := O4.out.2 hl
        rw [e] at e2
        simp only [Option.some.injEq, Addr.mk.injEq, and_true] at e2
        have := (HX1.out.lt _ e').2
        omega
    · have hym : y = nl := by omega
      subst hym
      go_wp2
      go_ret
      refine ⟨_, rfl, ?_, BW.out⟩
      have := OW.out
      rwa [List.take_of_length_le (by rw [HNL.out]; exact Nat.le_refl _)] at this

end Go.Proofs.Ytahdkdpliphcnaa



/- ClassesOf of the reading side. -/
namespace Go.Proofs.Ytahdkdpliphcnaa
open Go.RowKit Go.Shelf
set_option maxRecDepth 100000

end Go.Proofs.Ytahdkdpliphcnaa



/- Laws over slices of slices of ints: equal, marked, held. -/
namespace Go.Proofs.Ytahdkdpliphcnaa
open Go.RowKit Go.Shelf
set_option maxRecDepth 100000

/-- How many elements lie in the first lists. -/
def offN (ls : Nat → Nat) : Nat → Nat
  | 0 => 0
  | i + 1 => offN ls i + ls i
/-- A slice of slices of the call's own, by its lists' places. -/
def LLm (D n : Nat) (w : World) (A : Option Addr) (Bs : Nat → Option Addr) (cs ls : Nat → Nat) (F : Nat → List Int) : Prop :=
  ∀ i, i < n → ∃ g, A = some ⟨g, 0, none⟩ ∧ D ≤ g ∧ g < w.heap.size ∧ w.cell? ⟨g, i, none⟩ = some (.slice (Bs i) (ls i) (cs i)) ∧ ls i ≤ cs i ∧ ls i ≤ 1048570 ∧ Own w D (Bs i) (ls i) (F i) ∧ ∀ p : Addr, p.block = g → ¬ InS (Bs i) (ls i) p
theorem LLm.next {D n : Nat} {w w' : World} {A : Option Addr} {Bs : Nat → Option Addr} {cs ls : Nat → Nat} {F : Nat → List Int} (h : LLm D n w A Bs cs ls F) (hb : Below w.heap.size w w') : LLm D n w' A Bs cs ls F := fun i hi => by
  obtain ⟨g, e, h0, h1, h2, h3, h4, h5, h6⟩ := h i hi
  exact ⟨g, e, h0, Nat.lt_of_lt_of_le h1 hb.size, (hb.cell (p := ⟨g, i, none⟩) h1).trans h2, h3, h4, h5.next hb, h6⟩
theorem LLm.keep {D n : Nat} {w w' : World} {A : Option Addr} {Bs : Nat → Option Addr} {cs ls : Nat → Nat} {F : Nat → List Int} (h : LLm D n w A Bs cs ls F) (hs : w.heap.size ≤ w'.heap.size) (hk : ∀ p : Addr, D ≤ p.block → p.block < w.heap.size → w'.cell? p = w.cell? p ∧ w'.frozen? p = w.frozen? p) : LLm D n w' A Bs cs ls F := fun i hi => by
  obtain ⟨g, e, h0, h1, h2, h3, h4, h5, h6⟩ := h i hi
  exact ⟨g, e, h0, Nat.lt_of_lt_of_le h1 hs, (hk ⟨g, i, none⟩ h0 h1).1.trans h2, h3, h4, h5.keep hs hk, h6⟩

end Go.Proofs.Ytahdkdpliphcnaa



/- ClassesOf, on both sides, as the law wants it. -/
namespace Go.Proofs.Ytahdkdpliphcnaa
open Go.RowKit Go.Shelf
set_option maxRecDepth 100000

def fZ (ZZ : List (List Int)) (i : Nat) : List Int := (ZZ[i]?).getD []
def lsZ (ZZ : List (List Int)) (i : Nat) : Nat := (fZ ZZ i).length
theorem fZ_some {ZZ : List (List Int)} {i : Nat} {Z : List Int} (h : ZZ[i]? = some Z) : fZ ZZ i = Z := by unfold fZ; rw [h]; rfl
theorem fZ_get {ZZ : List (List Int)} {i : Nat} (h : i < ZZ.length) : ZZ[i]? = some (fZ ZZ i) := by unfold fZ; rw [List.getElem?_eq_getElem h]; rfl
/-- A slice of slices of the call's own, each in a block of its own, and short. -/
def LLF (D : Nat) (w : World) (v : Value) (ZZ : List (List Int)) : Prop :=
  ∃ (A : Option Addr) (cap : Nat) (Bs : Nat → Option Addr) (cs : Nat → Nat), v = .slice A ZZ.length cap ∧ LLm D ZZ.length w A Bs cs (lsZ ZZ) (fZ ZZ) ∧ (∀ i j, i < ZZ.length → j < ZZ.length → i ≠ j → Apart (Bs i) (lsZ ZZ i) (Bs j) (lsZ ZZ j)) ∧ ZZ.length ≤ 100000 ∧ offN (lsZ ZZ) ZZ.length ≤ 1048570
theorem LLm.readr {D : Nat} {w : World} {A : Option Addr} {Bs : Nat → Option Addr} {cs : Nat → Nat} {ZZ : List (List Int)} (cap : Nat) (h : LLm D ZZ.length w A Bs cs (lsZ ZZ) (fZ ZZ)) : LLr w (.slice A ZZ.length cap) ZZ :=
  ⟨A, cap, rfl, fun i Z hZ => by
    have hi : i < ZZ.length := (List.getElem?_eq_some_iff.1 hZ).1
    obtain ⟨g, e, _, h1, h2, h3, h4, h5, _⟩ := h i hi
    have e1 := fZ_some hZ
    have e2 : lsZ ZZ i = Z.length := by unfold lsZ; rw [e1]
    rw [e2] at h2 h3 h4 h5
    rw [e1] at h5
    exact ⟨g, Bs i, cs i, e, h1, h2, h3, h4, h5.ints⟩⟩
theorem LLm.marked {D n g1 g2 k1 k2 : Nat} {w w' : World} {A : Option Addr} {Bs : Nat → Option Addr} {cs ls : Nat → Nat} {F : Nat → List Int} (h : LLm D n w A Bs cs ls F) (hs : w.heap.size ≤ w'.heap.size)
    (hk : ∀ p : Addr, p.block < w.heap.size → ¬ InS (some ⟨g1, 0, none⟩) k1 p → ¬ InS (some ⟨g2, 0, none⟩) k2 p → w'.cell? p = w.cell? p ∧ w'.frozen? p = w.frozen? p) (h1 : g1 < D) (h2 : g2 < D) : LLm D n w' A Bs cs ls F :=
  h.keep hs fun p hD hp => hk p hp (not_inS (by omega)) (not_inS (by omega))
/-- Where the slice of a value lies, and how far it reaches. -/
def addrV : Value → Option Addr
  | .slice A _ _ => A
  | _ => none
def capV : Value → Nat
  | .slice _ _ c => c
  | _ => 0
theorem LLq.form {D : Nat} {w : World} {v : Value} {ZZ : List (List Int)} (h : LLq D w v ZZ) (h1 : ZZ.length ≤ 100000) (h2 : offN (lsZ ZZ) ZZ.length ≤ 1048570) : LLF D w v ZZ := by
  obtain ⟨xs, ho, hl, hp⟩ := h
  have at_ : ∀ i, i < ZZ.length → ∃ (B : Option Addr) (c : Nat), xs[i]? = some (Value.slice B (lsZ ZZ i) c) ∧ Own w D B (lsZ ZZ i) (fZ ZZ i) ∧ lsZ ZZ i ≤ c ∧ lsZ ZZ i ≤ 1048570 ∧ (∀ (g off : Nat), 0 < lsZ ZZ i → B = some ⟨g, off, none⟩ → v.ownBlock ≠ some g) ∧ addrV ((xs[i]?).getD undef) = B ∧ capV ((xs[i]?).getD undef) = c := fun i hi => by
    obtain ⟨B, l, c, e1, e2, e3, e4, e5⟩ := hl.2 i _ (fZ_get hi)
    have e6 : l = lsZ ZZ i := e2.1.symm
    subst e6
    exact ⟨B, c, e1, e2, e3, e4, e5, by rw [e1]; rfl, by rw [e1]; rfl⟩
  rcases ho.2 with ⟨hv, h0⟩ | ⟨g, cap, cur, hv, hg, hb, hc, _, hs, ht⟩
  · refine ⟨none, 0, fun _ => none, fun _ => 0, by rw [hv, h0], fun i hi => by omega, fun i j hi => by omega, h1, h2⟩
  · have hb' : Blk w g 22 cur := hb
    refine ⟨_, cap, fun i => addrV ((xs[i]?).getD undef), fun i => capV ((xs[i]?).getD undef), hv, fun i hi => ?_, fun i j hi hj hij => ?_, h1, h2⟩
    · obtain ⟨B, c, e1, e2, e3, e4, e5, e6, e7⟩ := at_ i hi
      show ∃ g', _
      simp only [e6, e7]
      refine ⟨g, rfl, hg, hb'.lt, ?_, e3, e4, e2, fun p hpg hin => ?_⟩
      · rw [hb'.cell i]
        have e8 : cur.toList[i]? = xs[i]? := by rw [← ht, List.getElem?_take]; simp; omega
        rw [← Array.getElem?_toList, e8, e1]
      · obtain ⟨g', off, k, e8, hk, rfl⟩ := hin
        have e9 : g' = g := hpg
        exact e5 g' off (by omega) e8 (by rw [hv, e9]; rfl)
    · obtain ⟨B, c, e1, _, _, _, _, e6, _⟩ := at_ i hi
      obtain ⟨B', c', e1', _, _, _, _, e6', _⟩ := at_ j hj
      show Apart (addrV ((xs[i]?).getD undef)) _ (addrV ((xs[j]?).getD undef)) _
      rw [e6, e6']
      rintro q ⟨g1, off1, k1, a1, a2, rfl⟩ ⟨g2, off2, k2, b1, b2, e⟩
      have := hp i j B _ c B' _ c' hij e1 e1' g1 off1 g2 off2 (by omega) (by omega) a1 b1
      simp only [Addr.mk.injEq] at e
      exact this e.1

end Go.Proofs.Ytahdkdpliphcnaa

