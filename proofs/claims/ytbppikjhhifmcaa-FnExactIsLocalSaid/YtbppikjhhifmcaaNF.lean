/- Texts of this seat in one: SB SD SE. -/
import Derived.Test.YtbppikjhhifmcaaNC
import Derived.Lib.SliceRun
import Derived.Test.YtbppikjhhifmcaaMR
import Derived.Test.YtbppikjhhifmcaaMO

/- Lists that a test strikes out of a slice of slices of ints: what is left. -/
namespace Go.Proofs.Ytbppikjhhifmcaa
open Go.RowKit Go.Shelf
set_option maxRecDepth 100000

theorem gb_below {a b c : World} {row : Option Nat} (h : a.grownBy b row) (k : Below b.heap.size b c) : a.grownBy c row :=
  ⟨k.os.trans h.os, k.tape.trans h.tape, k.output.trans h.output, Nat.le_trans h.size k.size, fun i hi hr => (k.block i (Nat.lt_of_lt_of_le hi h.size)).trans (h.block i hi hr)⟩
theorem gb_set {a b : World} {g i : Nat} {u : Value} (h : a.grownBy b (some g)) : a.grownBy (b.setCell ⟨g, i, none⟩ u) (some g) := by
  have h0 := (Below.refl 0 b).setCell (p := ⟨g, i, none⟩) (Nat.zero_le _) u
  exact ⟨h0.os.trans h.os, h0.tape.trans h.tape, h0.output.trans h.output, Nat.le_trans h.size h0.size, fun k hk hr => (Below.heap_setCell b ⟨g, i, none⟩ u k (fun e => hr (by rw [e]))).trans (h.block k hk hr)⟩
theorem gb_sets {g : Nat} : ∀ (us : List Value) (i : Nat) {a b : World}, a.grownBy b (some g) → a.grownBy (b.setCells g i us) (some g)
  | [], _, _, _, h => h
  | u :: r, i, _, _, h => gb_sets r (i + 1) (gb_set (u := u) (i := i) h)

/-- What is left, each list with its value. -/
def cutL (q : List Int → Bool) (PZ : List (Value × List Int)) : List (Value × List Int) := PZ.filter fun x => !q x.2
theorem cut_snd {q : List Int → Bool} {xs : List Value} {ZZ : List (List Int)} (h : xs.length = ZZ.length) : (cutL q (xs.zip ZZ)).map (·.2) = ZZ.filter fun Z => !q Z := by
  unfold cutL
  rw [show (fun x : Value × List Int => !q x.2) = (fun Z => !q Z) ∘ (·.2) from rfl, ← List.filter_map]
  congr 1
  rw [show (fun x : Value × List Int => x.2) = Prod.snd from rfl, List.map_snd_zip (by omega)]
theorem cut_len {q : List Int → Bool} {xs : List Value} {ZZ : List (List Int)} (h : xs.length = ZZ.length) : (cutL q (xs.zip ZZ)).length = (ZZ.filter fun Z => !q Z).length := by rw [← cut_snd h, List.length_map]
theorem zip_at {xs : List Value} {ZZ : List (List Int)} {i : Nat} {y : Value} {Z : List Int} (hx : xs[i]? = some y) (hz : ZZ[i]? = some Z) : (xs.zip ZZ)[i]? = some (y, Z) := List.getElem?_zip_eq_some.2 ⟨hx, hz⟩
theorem cut_yes {q : List Int → Bool} {PZ : List (Value × List Int)} {j : Nat} {x : Value × List Int} (h : PZ[j]? = some x) (hq : q x.2 = false) : cutL q (PZ.take (j + 1)) = cutL q (PZ.take j) ++ [x] := by
  have hj := (List.getElem?_eq_some_iff.1 h)
  obtain ⟨h1, h2⟩ := hj
  rw [List.take_succ_eq_append_getElem h1, h2]
  unfold cutL
  rw [List.filter_append]
  simp [hq]
theorem cut_no {q : List Int → Bool} {PZ : List (Value × List Int)} {j : Nat} {x : Value × List Int} (h : PZ[j]? = some x) (hq : q x.2 = true) : cutL q (PZ.take (j + 1)) = cutL q (PZ.take j) := by
  obtain ⟨h1, h2⟩ := List.getElem?_eq_some_iff.1 h
  rw [List.take_succ_eq_append_getElem h1, h2]
  unfold cutL
  rw [List.filter_append]
  simp [hq]
theorem cut_all {q : List Int → Bool} {PZ : List (Value × List Int)} (h : ∀ (j : Nat) (x : Value × List Int), PZ[j]? = some x → q x.2 = false) : cutL q PZ = PZ := by
  unfold cutL
  rw [List.filter_eq_self]
  intro x hx
  obtain ⟨j, hj⟩ := List.getElem?_of_mem hx
  rw [h j x hj]; rfl
/-- Among the lists the first that the test names is this one. -/
def FirstAt (q : List Int → Bool) (ZZ : List (List Int)) (k : Nat) : Prop := (∃ Z, ZZ[k]? = some Z ∧ q Z = true) ∧ ∀ (j : Nat) (Z : List Int), j < k → ZZ[j]? = some Z → q Z = false

/-- How the row stands behind j of its places, of which i were left. -/
structure CutInv (q : List Int → Bool) (xs : List Value) (ZZ : List (List Int)) (i j : Nat) (cur : Array Value) : Prop where
  lt : i < j
  len : (cutL q ((xs.zip ZZ).take j)).length = i
  low : ∀ (t : Nat) (x : Value × List Int), (cutL q ((xs.zip ZZ).take j))[t]? = some x → cur[t]? = some x.1
  high : ∀ (t : Nat) (y : Value), j ≤ t → xs[t]? = some y → cur[t]? = some y
theorem CutInv.start {q : List Int → Bool} {xs : List Value} {ZZ : List (List Int)} {k : Nat} {cur : Array Value} (hl : xs.length = ZZ.length) (hc : ∀ (t : Nat) (y : Value), xs[t]? = some y → cur[t]? = some y) (h : FirstAt q ZZ k) : CutInv q xs ZZ k (k + 1) cur := by
  obtain ⟨⟨Z, hZ, hq⟩, ha⟩ := h
  have hk : k < ZZ.length := (List.getElem?_eq_some_iff.1 hZ).1
  have hz := zip_at (List.getElem?_eq_getElem (by rw [hl]; exact hk)) hZ
  have e1 : cutL q ((xs.zip ZZ).take (k + 1)) = (xs.zip ZZ).take k := by
    rw [cut_no hz hq]
    refine cut_all fun j x hx => ?_
    obtain ⟨hj, _⟩ := List.getElem?_eq_some_iff.1 hx
    rw [List.getElem?_take] at hx
    have hj' : j < k := by simp at hj; omega
    rw [if_pos hj'] at hx
    exact ha j _ hj' (List.getElem?_zip_eq_some.1 hx).2
  refine ⟨Nat.lt_succ_self _, by rw [e1, List.length_take, List.length_zip]; omega, fun t x hx => ?_, fun t y _ hy => hc t y hy⟩
  rw [e1, List.getElem?_take] at hx
  by_cases ht : t < k
  · rw [if_pos ht] at hx
    exact hc t _ (List.getElem?_zip_eq_some.1 hx).1
  · rw [if_neg ht] at hx; cases hx
theorem CutInv.keep {q : List Int → Bool} {xs : List Value} {ZZ : List (List Int)} {i j : Nat} {cur : Array Value} {y : Value} {Z : List Int} (h : CutInv q xs ZZ i j cur) (hx : xs[j]? = some y) (hz : ZZ[j]? = some Z) (hq : q Z = false) (hs : i < cur.size) : CutInv q xs ZZ (i + 1) (j + 1) (cur.setIfInBounds i y) := by
  have hp := cut_yes (zip_at hx hz) hq
  have hlt := h.lt
  refine ⟨by omega, by rw [hp, List.length_append, h.len]; rfl, fun t x ht => ?_, fun t y' hj hy => ?_⟩
  · rw [hp] at ht
    by_cases e : t < (cutL q ((xs.zip ZZ).take j)).length
    · rw [List.getElem?_append_left e] at ht
      rw [Array.getElem?_setIfInBounds_ne (by have := h.len; omega)]
      exact h.low t x ht
    · rw [List.getElem?_append_right (by omega)] at ht
      have e0 : t = i := by
        have := (List.getElem?_eq_some_iff.1 ht).1
        rw [h.len] at this e
        simp at this
        omega
      subst e0
      rw [h.len, Nat.sub_self] at ht
      simp at ht
      subst ht
      rw [Array.getElem?_setIfInBounds_self_of_lt hs]
  · rw [Array.getElem?_setIfInBounds_ne (by omega)]
    exact h.high t y' (by omega) hy
theorem CutInv.skip {q : List Int → Bool} {xs : List Value} {ZZ : List (List Int)} {i j : Nat} {cur : Array Value} {y : Value} {Z : List Int} (h : CutInv q xs ZZ i j cur) (hx : xs[j]? = some y) (hz : ZZ[j]? = some Z) (hq : q Z = true) : CutInv q xs ZZ i (j + 1) cur := by
  have hp := cut_no (zip_at hx hz) hq
  have hlt := h.lt
  exact ⟨by omega, by rw [hp, h.len], fun t x ht => h.low t x (by rw [← hp]; exact ht), fun t y' hj hy => h.high t y' (by omega) hy⟩

theorem LLs.cut {D : Nat} {w : World} {row : Option Nat} {xs : List Value} {ZZ : List (List Int)} (h : LLs D w row xs ZZ) (q : List Int → Bool) : LLs D w row ((cutL q (xs.zip ZZ)).map (·.1)) (ZZ.filter fun Z => !q Z) := by
  refine ⟨by rw [List.length_map, cut_len h.1], fun i Z hZ => ?_⟩
  rw [← cut_snd h.1, List.getElem?_map] at hZ
  obtain ⟨x, hx, hZx⟩ : ∃ x, (cutL q (xs.zip ZZ))[i]? = some x ∧ x.2 = Z := by
    cases e : (cutL q (xs.zip ZZ))[i]? with
    | none => rw [e] at hZ; cases hZ
    | some x => rw [e] at hZ; exact ⟨x, rfl, by simpa using hZ⟩
  have hm : x ∈ xs.zip ZZ := (List.mem_filter.1 (List.mem_of_getElem? hx)).1
  obtain ⟨t, ht⟩ := List.getElem?_of_mem hm
  obtain ⟨h1, h2⟩ := List.getElem?_zip_eq_some.1 ht
  rw [hZx] at h2
  obtain ⟨B, l, c, e1, e2⟩ := h.2 t Z h2
  rw [h1] at e1
  exact ⟨B, l, c, by rw [List.getElem?_map, hx]; exact e1, e2⟩
def RP (v v' : Value) : Prop := ∀ (B : Option Addr) (l c : Nat) (B' : Option Addr) (l' c' : Nat), v = Value.slice B l c → v' = Value.slice B' l' c' → ∀ (g off g' off' : Nat), 0 < l → 0 < l' → B = some ⟨g, off, none⟩ → B' = some ⟨g', off', none⟩ → g ≠ g'
theorem LLp_iff {xs : List Value} : LLp xs ↔ xs.Pairwise RP := by
  rw [List.pairwise_iff_getElem]
  constructor
  · intro h i j hi hj hij B l c B' l' c' e e' 
    exact h i j B l c B' l' c' (by omega) (by rw [List.getElem?_eq_getElem hi, e]) (by rw [List.getElem?_eq_getElem hj, e'])
  · intro h i j B l c B' l' c' hij e e' g off g' off' h1 h2 a1 a2
    obtain ⟨hi, e⟩ := List.getElem?_eq_some_iff.1 e
    obtain ⟨hj, e'⟩ := List.getElem?_eq_some_iff.1 e'
    rcases Nat.lt_or_gt_of_ne hij with hlt | hlt
    · exact h i j hi hj hlt B l c B' l' c' e e' g off g' off' h1 h2 a1 a2
    · exact (h j i hj hi hlt B' l' c' B l c e' e g' off' g off h2 h1 a2 a1).symm
theorem LLp.cut {xs : List Value} {ZZ : List (List Int)} (h : LLp xs) (hl : xs.length = ZZ.length) (q : List Int → Bool) : LLp ((cutL q (xs.zip ZZ)).map (·.1)) := by
  rw [LLp_iff] at h ⊢
  have hs : List.Sublist ((cutL q (xs.zip ZZ)).map (·.1)) ((xs.zip ZZ).map (·.1)) := List.Sublist.map _ (List.filter_sublist)
  rw [show (xs.zip ZZ).map (·.1) = xs from List.map_fst_zip (by omega)] at hs
  exact h.sublist hs
/-- The row behind the last place. -/
theorem LLq.cut {D g l cap i : Nat} {w w' : World} {xs : List Value} {ZZ : List (List Int)} {q : List Int → Bool} {cur : Array Value} (hg : D ≤ g) (hcap : l ≤ cap) (hmx : cap ≤ maxLen) (hll : l = ZZ.length) (h2 : LLs D w (some g) xs ZZ) (h3 : LLp xs) (hgw : w.grownBy w' (some g)) (hb : Blk w' g 22 cur) (hs : cur.size = cap)
    (hi : CutInv q xs ZZ i l cur) : LLq D w' (.slice (some ⟨g, 0, none⟩) i cap) (ZZ.filter fun Z => !q Z) ∧ i = (ZZ.filter fun Z => !q Z).length := by
  have hl := h2.1
  have e0 : (xs.zip ZZ).take l = xs.zip ZZ := List.take_of_length_le (by rw [List.length_zip]; omega)
  have hlen := hi.len
  have hlow := hi.low
  have hlt := hi.lt
  rw [e0] at hlen hlow
  have e1 : i = (ZZ.filter fun Z => !q Z).length := by rw [← cut_len hl, hlen]
  refine ⟨⟨(cutL q (xs.zip ZZ)).map (·.1), ⟨by rw [List.length_map, hlen, e1, Nat.mul_one], .inr ⟨g, cap, cur, by rw [e1], hg, hb, by rw [← e1]; omega, hmx, by rw [hs]; simp, ?_⟩⟩, ?_, h3.cut hl q⟩, e1⟩
  · rw [← e1]
    simp only [Nat.mul_one]
    apply List.ext_getElem?
    intro t
    rw [List.getElem?_take, List.getElem?_map]
    by_cases ht : t < i
    · rw [if_pos ht]
      obtain ⟨x, hx⟩ : ∃ x, (cutL q (xs.zip ZZ))[t]? = some x := ⟨_, List.getElem?_eq_getElem (by rw [hlen]; exact ht)⟩
      rw [hx, Array.getElem?_toList, hlow t x hx]; rfl
    · rw [if_neg ht, List.getElem?_eq_none (by rw [hlen]; omega)]; rfl
  · have := h2.cut q
    exact ⟨this.1, fun i Z hZ => by obtain ⟨B, l, c, a1, a2, a3, a4, a5⟩ := this.2 i Z hZ; exact ⟨B, l, c, a1, a2.grown_ hgw a5, a3, a4, a5⟩⟩

end Go.Proofs.Ytbppikjhhifmcaa



/- slices.IndexFunc and slices.DeleteFunc of slices of ints, at a test that may make blocks of its own. -/
namespace Go.Proofs.Ytbppikjhhifmcaa
open Go.RowKit Go.Shelf
set_option maxRecDepth 100000

/-- What is asked of the test: at each list of the row, in whatever world that differs in the row alone. -/
def TestAt (g pf : Nat) (cp : Array Value) (q : List Int → Bool) (xs : List Value) (ZZ : List (List Int)) (w : World) : Prop :=
  ∀ (i : Nat) (y : Value) (Z : List Int), xs[i]? = some y → ZZ[i]? = some Z → ∀ V, w.grownBy V (some g) → Calls Try.prog pf (#[y] ++ cp) V fun e w' => e = .returned (.bool (q Z)) ∧ Below V.heap.size V w'
/-- What IndexFunc hands back. -/
def IdxIs (q : List Int → Bool) (ZZ : List (List Int)) (r : Int) : Prop := (r = -1 ∧ ∀ (j : Nat) (Z : List Int), ZZ[j]? = some Z → q Z = false) ∨ ∃ k : Nat, r = (k : Int) ∧ FirstAt q ZZ k
theorem idx_is (q : List Int → Bool) (ZZ : List (List Int)) : ∃ r, IdxIs q ZZ r := by
  have h : ∀ n, (∀ (j : Nat) (Z : List Int), j < n → ZZ[j]? = some Z → q Z = false) ∨ ∃ k, FirstAt q ZZ k := by
    intro n
    induction n with
    | zero => exact .inl fun j Z hj => absurd hj (Nat.not_lt_zero _)
    | succ n ih =>
      rcases ih with h | h
      · cases hz : ZZ[n]? with
        | none =>
          refine .inl fun j Z hj hZ => ?_
          rcases Nat.lt_or_ge j n with h1 | h1
          · exact h j Z h1 hZ
          · have e : j = n := by omega
            subst e
            rw [hz] at hZ
            cases hZ
        | some Z =>
          cases hq : q Z with
          | false =>
            refine .inl fun j Z' hj hZ => ?_
            rcases Nat.lt_or_ge j n with h1 | h1
            · exact h j Z' h1 hZ
            · have e : j = n := by omega
              subst e
              rw [hz] at hZ
              simp only [Option.some.injEq] at hZ
              subst hZ
              exact hq
          | true => exact .inr ⟨n, ⟨Z, hz, hq⟩, h⟩
      · exact .inr h
  rcases h ZZ.length with h1 | ⟨k, hk⟩
  · exact ⟨-1, .inl ⟨rfl, fun j Z hZ => h1 j Z (List.getElem?_eq_some_iff.1 hZ).1 hZ⟩⟩
  · exact ⟨k, .inr ⟨k, rfl, hk⟩⟩
theorem IdxIs.at_ {q : List Int → Bool} {ZZ : List (List Int)} {r : Int} (h : IdxIs q ZZ r) {k : Nat} (hk : FirstAt q ZZ k) : r = (k : Int) := by
  obtain ⟨⟨Z, hZ, hq⟩, ha⟩ := hk
  rcases h with ⟨_, h⟩ | ⟨k', e, ⟨Z', hZ', hq'⟩, ha'⟩
  · rw [h k Z hZ] at hq; cases hq
  · rcases Nat.lt_trichotomy k k' with h1 | h1 | h1
    · rw [ha' k Z h1 hZ] at hq; cases hq
    · rw [e, h1]
    · rw [ha k' Z' h1 hZ'] at hq'; cases hq'
theorem IdxIs.none_ {q : List Int → Bool} {ZZ : List (List Int)} {r : Int} (h : IdxIs q ZZ r) (ha : ∀ (j : Nat) (Z : List Int), j < ZZ.length → ZZ[j]? = some Z → q Z = false) : r = -1 := by
  rcases h with ⟨e, _⟩ | ⟨k, _, ⟨Z, hZ, hq⟩, _⟩
  · exact e
  · rw [ha k Z (List.getElem?_eq_some_iff.1 hZ).1 hZ] at hq; cases hq

set_option maxHeartbeats 4000000 in
theorem idxF_any (g l cap pf : Nat) (cp : Array Value) (q : List Int → Bool) (xs : List Value) (ZZ : List (List Int)) (cur : Array Value) (r : Int) (A : Option Addr) (w : World) (hA : 0 < l → A = some ⟨g, 0, none⟩ ∧ Blk w g 22 cur) (hl : xs.length = ZZ.length) (hll : l = ZZ.length) (hl2 : l ≤ 100000)
    (hc : ∀ (t : Nat) (y : Value), xs[t]? = some y → cur[t]? = some y) (eg : ∀ args w, (callFunc pf args).run Try.prog w = .ok (.enter pf args) w) (ht : TestAt g pf cp q xs ZZ w) (hr : IdxIs q ZZ r) :
    Calls Try.prog 36 #[.slice A l cap, .func (.func pf) #[] cp] w fun e w' => e = .returned (.int .i64 r) ∧ Below w.heap.size w w' := by
  have HT := Lib.hid ht
  have HR := Lib.hid hr
  have HA := Lib.hid hA
  have HC := Lib.hid hc
  have HLL := Lib.hid hll
  have HL := Lib.hid hl
  clear ht hr hA hc hll hl
  go_enter Try.func36, Try.ntmps36
  go_wp2
  go_loopg [8] l (fun gk vi wr => ∃ y : Nat, y ≤ l ∧ l ≤ y + gk ∧ vi = .int .i64 (y : Int) ∧ (∀ (j : Nat) (Z : List Int), j < y → ZZ[j]? = some Z → q Z = false) ∧ Below w.heap.size w wr)
  case atStart => exact ⟨0, Nat.zero_le _, by omega, rfl, fun j Z hj => absurd hj (Nat.not_lt_zero _), Below.refl _ _⟩
  case round =>
    obtain ⟨y, hy, hgk, rfl, hno, hb⟩ := hrel
    have HN := Lib.hid hno
    have BW := Lib.hid hb
    clear hno hb
    by_cases hlt : y < l
    · obtain ⟨eA, hbk⟩ := HA.out (by omega)
      subst eA
      obtain ⟨Z, hZ⟩ : ∃ Z, ZZ[y]? = some Z := ⟨_, List.getElem?_eq_getElem (by rw [← HLL.out]; exact hlt)⟩
      obtain ⟨u, hu⟩ : ∃ u, xs[y]? = some u := ⟨_, List.getElem?_eq_getElem (by rw [HL.out, ← HLL.out]; exact hlt)⟩
      have hck : wr.cell? ⟨g, y, none⟩ = some u := ((hbk.next BW.out).cell y).trans (HC.out y u hu)
      have hcall := HT.out y u Z hu hZ wr (gb_below (World.grownBy.refl _ _) BW.out)
      cases hq : q Z
      · have HQ := Lib.hid hq
        rw [hq] at hcall
        have HZ := Lib.hid hZ
        clear hbk hZ hu hq
        go_wp2_with (go_at_fn pf; refine hcall.mono ?_; rintro e3 w3 ⟨rfl, hb3⟩; have B3 := Lib.hid (below_step BW.out hb3); clear hb3)
        go_roundg (l - (y + 1))
        case measure => omega
        case rel =>
          refine ⟨y + 1, by omega, by omega, by go_num, fun j Z' hj hZ' => ?_, B3.out⟩
          rcases Nat.lt_or_ge j y with h1 | h1
          · exact HN.out j Z' h1 hZ'
          · have e : j = y := by omega
            subst e
            rw [HZ.out] at hZ'
            simp only [Option.some.injEq] at hZ'
            subst hZ'
            exact HQ.out
      · have HE := Lib.hid (HR.out.at_ ⟨⟨Z, hZ, hq⟩, HN.out⟩)
        rw [hq] at hcall
        clear hbk hZ hu hq
        go_wp2_with (go_at_fn pf; refine hcall.mono ?_; rintro e3 w3 ⟨rfl, hb3⟩; have B3 := Lib.hid (below_step BW.out hb3); clear hb3)
        go_ret
        exact ⟨by rw [HE.out]; rfl, B3.out⟩
    · have hym : y = l := by omega
      subst hym
      have HE := Lib.hid (HR.out.none_ (fun j Z hj => HN.out j Z (by rw [HLL.out]; exact hj)))
      go_wp2
      go_ret
      exact ⟨by rw [HE.out]; rfl, BW.out⟩

theorem setAll_low : ∀ (vs : List Value) (cur : Array Value) (o t : Nat), t < o → (setAll cur o vs)[t]? = cur[t]?
  | [], _, _, _, _ => rfl
  | v :: r, cur, o, t, h => by
    show (setAll (cur.setIfInBounds o v) (o + 1) r)[t]? = _
    rw [setAll_low r _ (o + 1) t (by omega), Array.getElem?_setIfInBounds_ne (by omega)]
theorem setAll_size_ : ∀ (vs : List Value) (cur : Array Value) (o : Nat), (setAll cur o vs).size = cur.size
  | [], _, _ => rfl
  | v :: r, cur, o => by
    show (setAll (cur.setIfInBounds o v) (o + 1) r).size = _
    rw [setAll_size_ r _ (o + 1), Array.size_setIfInBounds]
theorem sl_under : Try.prog.underlying 35 = some (.slice 22) := by kernel_rfl
theorem sl_zero : ∀ w, (zeroValue 22).run Try.prog w = .ok (.slice none 0 0) w := fun _ => rfl

set_option maxHeartbeats 8000000 in
theorem delF_any (D : Nat) (v : Value) (ZZ : List (List Int)) (q : List Int → Bool) (pf : Nat) (cp : Array Value) (w : World) (hq : LLq D w v ZZ) (hn : ZZ.length ≤ 100000) (hD : D ≤ w.heap.size) (eg : ∀ args w, (callFunc pf args).run Try.prog w = .ok (.enter pf args) w)
    (ht : ∀ (i : Nat) (Z : List Int) (B : Option Addr) (c : Nat), ZZ[i]? = some Z → ∀ V, w.grownBy V v.ownBlock → Ints V V.heap.size B Z.length Z → Z.length ≤ c → Z.length ≤ 1048570 → Calls Try.prog pf (#[.slice B Z.length c] ++ cp) V fun e w' => e = .returned (.bool (q Z)) ∧ Below V.heap.size V w') :
    Calls Try.prog 24 #[v, .func (.func pf) #[] cp] w fun e w' => ∃ v', e = .returned v' ∧ LLq D w' v' (ZZ.filter fun Z => !q Z) ∧ Below D w w' := by
  obtain ⟨r, hr⟩ := idx_is q ZZ
  obtain ⟨xs, h1, h2, h3⟩ := hq
  rcases h1.2 with ⟨rfl, h0⟩ | ⟨g, cap, cur, rfl, hg, hb, hcap, hmx, hcs, htk⟩
  · have e0 : ZZ = [] := List.eq_nil_of_length_eq_zero h0
    subst e0
    have hr1 : r = -1 := hr.none_ (fun j Z hj => absurd hj (by simp))
    subst hr1
    have HR := Lib.hid hr
    clear h1 h2 h3 ht hr
    go_enter Try.func24, Try.ntmps24
    go_wp2_with (go_at_call 36; refine (idxF_any 0 0 _ pf cp q [] [] #[] (-1) _ w (fun h => absurd h (by omega)) rfl rfl (by omega) (fun t y h => by simp at h) eg (fun i y Z h => by simp at h) HR.out).mono ?_; rintro e1 w1 ⟨rfl, hb1⟩; have B1 := Lib.hid (hb1.mono hD); clear hb1)
    go_ret
    exact ⟨_, rfl, LLq.nil, B1.out⟩
  · have hb' : Blk w g 22 cur := hb
    obtain ⟨l, hl⟩ : ∃ l, ZZ.length = l := ⟨_, rfl⟩
    rw [hl] at h1 hcap htk hn ⊢
    have hxl := h2.1
    have hcur : ∀ (t : Nat) (y : Value), xs[t]? = some y → cur[t]? = some y := fun t y h => by
      have ht' : t < l := by rw [← hl, ← hxl]; exact (List.getElem?_eq_some_iff.1 h).1
      have e1 : cur.toList[t]? = xs[t]? := by rw [← htk, List.getElem?_take, if_pos (by omega)]
      rw [← Array.getElem?_toList, e1, h]
    have hts : TestAt g pf cp q xs ZZ w := fun i y Z hy hZ V hV => by
      obtain ⟨B, l', c, e1, e2, e3, e4, e5⟩ := h2.2 i Z hZ
      rw [hy] at e1
      simp only [Option.some.injEq] at e1
      subst e1
      have e6 : l' = Z.length := e2.1.symm
      subst e6
      exact ht i Z B c hZ V hV (e2.grown_ hV e5).ints e3 e4
    have hsz : cur.size = cap := by rw [hcs]; omega
    have HT := Lib.hid hts
    have HR := Lib.hid hr
    have HC := Lib.hid hcur
    have HL := Lib.hid hl
    have HX := Lib.hid hxl
    have HB := Lib.hid hb'
    have H2 := Lib.hid h2
    have H3 := Lib.hid h3
    have HSZ := Lib.hid hsz
    have HHR := Lib.hid hr
    have HH1 := Lib.hid h1
    have hlz : (l : Int) ≤ 100000 := by omega
    clear hts hcur hl hxl hb hb' h2 h3 hsz ht h1 htk hcs
    rcases hr with ⟨rfl, hall⟩ | ⟨k, rfl, hk⟩
    · have HF := Lib.hid (show (ZZ.filter fun Z => !q Z) = ZZ from List.filter_eq_self.2 fun Z hZ => by
        obtain ⟨j, hj⟩ := List.getElem?_of_mem hZ
        rw [hall j Z hj]; rfl)
      clear hall
      go_enter Try.func24, Try.ntmps24
      go_wp2_with (go_at_call 36; refine (idxF_any g l cap pf cp q xs ZZ cur (-1) _ w (fun _ => ⟨rfl, HB.out⟩) HX.out HL.out.symm hn HC.out eg HT.out HR.out).mono ?_; rintro e1 w1 ⟨rfl, hb1⟩; have B1 := Lib.hid hb1; clear hb1)
      go_ret
      refine ⟨_, rfl, ?_, B1.out.mono hD⟩
      rw [HF.out]
      exact LLq.next ⟨xs, by rw [HL.out]; exact HH1.out, H2.out, H3.out⟩ B1.out
    · have hkl : k < l := by rw [← HL.out]; exact (List.getElem?_eq_some_iff.1 hk.1.choose_spec.1).1
      have HK := Lib.hid hk
      have hne1 : ((k : Int) == -1) = false := beq_eq_false_iff_ne.2 (by omega)
      clear hk
      go_enter Try.func24, Try.ntmps24
      go_wp2_with (go_at_call 36; refine (idxF_any g l cap pf cp q xs ZZ cur (k : Int) _ w (fun _ => ⟨rfl, HB.out⟩) HX.out HL.out.symm hn HC.out eg HT.out HR.out).mono ?_; rintro e1 w1 ⟨rfl, hb1⟩; have B1 := Lib.hid hb1; clear hb1)
      go_loopg [5, 6, 7] l (fun gk s5 s6 _ wr => ∃ (i j : Nat) (cu : Array Value), s5 = .int .i64 (i : Int) ∧ s6 = .int .i64 (j : Int) ∧ j ≤ l ∧ l ≤ j + gk ∧ cu.size = cap ∧ CutInv q xs ZZ i j cu ∧ Blk wr g 22 cu ∧ w.grownBy wr (some g))
      case atStart => exact ⟨k, k + 1, cur, rfl, by go_num, by omega, by omega, HSZ.out, CutInv.start HX.out HC.out HK.out, HB.out.next B1.out, gb_below (World.grownBy.refl _ _) B1.out⟩
      case round =>
        obtain ⟨i, j, cu, rfl, rfl, hjl, hgk, hcu, hci, hbk, hgw⟩ := hrel
        have hij := hci.lt
        have CI := Lib.hid hci
        have BK := Lib.hid hbk
        have GW := Lib.hid hgw
        have HCU := Lib.hid hcu
        by_cases hlt : j < l
        · obtain ⟨Z, hZ⟩ : ∃ Z, ZZ[j]? = some Z := ⟨_, List.getElem?_eq_getElem (by rw [HL.out]; exact hlt)⟩
          obtain ⟨B5, l5, c5, hu, _⟩ := H2.out.2 j Z hZ
          have hck : wr.cell? ⟨g, j, none⟩ = some (.slice B5 l5 c5) := (hbk.cell j).trans (hci.high j _ (Nat.le_refl _) hu)
          have hcall := HT.out j _ Z hu hZ wr hgw
          have HZ := Lib.hid hZ
          have HU := Lib.hid hu
          have hicu : i < cu.size := by omega
          obtain ⟨old, hold⟩ : ∃ old, cu[i]? = some old := ⟨_, Array.getElem?_eq_getElem hicu⟩
          have HO := Lib.hid hold
          have HIC := Lib.hid hicu
          cases hqq : q Z
          · have HQ := Lib.hid hqq
            rw [hqq] at hcall
            clear hci hbk hgw hZ hu hqq hold hcu hicu
            go_wp2_with (go_at_fn pf; refine hcall.mono ?_; rintro e3 w3 ⟨rfl, hb3⟩; have BK3 := Lib.hid (BK.out.next hb3); have GW3 := Lib.hid (gb_below GW.out hb3); have hc3 := (BK3.out.cell i).trans HO.out; have hf3 := BK3.out.frozen i; clear hb3)
            go_roundg (l - (j + 1))
            case measure => omega
            case rel => exact ⟨i + 1, j + 1, cu.setIfInBounds i (.slice B5 l5 c5), by go_num, by go_num, by omega, by omega, by rw [Array.size_setIfInBounds]; exact HCU.out, CI.out.keep HU.out HZ.out HQ.out HIC.out, BK3.out.set_ i _, gb_set GW3.out⟩
          · have HQ := Lib.hid hqq
            rw [hqq] at hcall
            clear hci hbk hgw hZ hu hqq hold hcu hicu
            go_wp2_with (go_at_fn pf; refine hcall.mono ?_; rintro e3 w3 ⟨rfl, hb3⟩; have BK3 := Lib.hid (BK.out.next hb3); have GW3 := Lib.hid (gb_below GW.out hb3); clear hb3)
            go_roundg (l - (j + 1))
            case measure => omega
            case rel => exact ⟨i, j + 1, cu, rfl, by go_num, by omega, by omega, HCU.out, CI.out.skip HU.out HZ.out HQ.out, BK3.out, GW3.out⟩
        · have hjm : j = l := by omega
          subst hjm
          have hcl : ∀ ty, (Builtin.clear_ #[35] ty #[.slice (some ⟨g, i, none⟩) (j - i) (cap - i)]).run Try.prog wr = .ok (.tuple #[]) (wr.setCells g i (List.replicate (j - i) (.slice none 0 0))) :=
            fun ty => Lib.run_clear_slice wr _ _ ty _ sl_under sl_zero rfl rfl g i _ _ (by omega) (fun t ht => by rw [hbk.cell, Array.getElem?_eq_getElem (by omega)]; rfl) (fun t ht => hbk.frozen _)
          clear hci hbk hgw hcu
          go_wp2
          go_ret
          have hcut : CutInv q xs ZZ i j (setAll cu i (List.replicate (j - i) (.slice none 0 0))) := by
            refine ⟨CI.out.lt, CI.out.len, fun t x hx => ?_, fun t y hj hy => ?_⟩
            · have ht : t < i := by have := (List.getElem?_eq_some_iff.1 hx).1; rw [CI.out.len] at this; exact this
              rw [setAll_low _ _ _ _ ht]
              exact CI.out.low t x hx
            · have := (List.getElem?_eq_some_iff.1 hy).1
              rw [HX.out, HL.out] at this
              omega
          have hq4 := LLq.cut (D := D) (g := g) (l := j) (cap := cap) (i := i) (w := w) (xs := xs) (ZZ := ZZ) (q := q) hg (by omega) hmx HL.out.symm H2.out H3.out (gb_sets (List.replicate (j - i) (.slice none 0 0)) i GW.out) (BK.out.setAll_ (List.replicate (j - i) (.slice none 0 0)) i) (by rw [setAll_size_]; exact HCU.out) hcut
          exact ⟨_, rfl, hq4.1, (Below.refl D w).grown (gb_sets (List.replicate (j - i) (.slice none 0 0)) i GW.out) hD (fun k e => by simp only [Option.some.injEq] at e; omega)⟩

end Go.Proofs.Ytbppikjhhifmcaa



/- The maximal ideals as the program lists them. -/
namespace Go.Proofs.Ytbppikjhhifmcaa
open Go.RowKit Go.Shelf
set_option maxRecDepth 100000

noncomputable def mxL (n o : Int) (X Y : List Int) : List (List Int) := (alsL n o X Y).filter fun Z => mxmB n o X Y Z
theorem mxL_get {n o : Int} {X Y Z : List Int} {i : Nat} (h : (mxL n o X Y)[i]? = some Z) : ∃ j : Nat, (alsL n o X Y)[j]? = some Z := by
  have h1 := List.mem_of_getElem? h
  unfold mxL at h1
  exact List.getElem?_of_mem (List.mem_filter.1 h1).1
theorem mxL_len {n o : Int} {X Y : List Int} : (mxL n o X Y).length ≤ (alsL n o X Y).length := List.length_filter_le _ _

set_option maxHeartbeats 2000000 in
theorem othF_any (Br : Nat) (n o : Int) (A B C : Option Addr) (la ca lb cb len cap : Nat) (X Y L : List Int) (w : World) (h0 : Blk w Br 27 #[.int .i64 n, .int .i64 o, .slice A la ca, .slice B lb cb]) (hX : Ints w w.heap.size A la X) (hY : Ints w w.heap.size B lb Y) (hL : Ints w w.heap.size C len L) (hla : la ≤ 9223372036854775807) (hlb : lb ≤ 9223372036854775807) (hlen : len ≤ 9223372036854775807) (hca : la ≤ ca) (hcb : lb ≤ cb) :
    Calls Try.prog 22 (#[.slice C len cap] ++ #[.pointer (some ⟨Br, 0, none⟩)]) w fun e' w' => e' = .returned (.bool (!mxmB n o X Y L)) ∧ Below w.heap.size w w' := by
  obtain ⟨c0, c1, c2, c3⟩ := blk4 h0
  have HX := Lib.hid hX
  have HY := Lib.hid hY
  have HL := Lib.hid hL
  clear hX hY hL h0
  go_enter Try.func22, Try.ntmps22
  go_wp2_with (fail)
  refine (mxm_any n o A B C la ca lb cb len cap X Y L w HX.out HY.out HL.out hla hlb hlen hca hcb).mono ?_
  rintro e1 w1 ⟨rfl, hb1⟩
  have B1 := Lib.hid hb1
  clear hb1
  go_wp2
  go_ret
  exact ⟨rfl, B1.out⟩

set_option maxHeartbeats 4000000 in
theorem mxs_any (n o : Int) (A B : Option Addr) (la ca lb cb : Nat) (X Y : List Int) (w : World) (hX : Ints w w.heap.size A la X) (hY : Ints w w.heap.size B lb Y) (hla : la ≤ 9223372036854775807) (hlb : lb ≤ 9223372036854775807) (hca : la ≤ ca) (hcb : lb ≤ cb) :
    Calls Try.prog 16 #[.agg #[.int .i64 n, .int .i64 o, .slice A la ca, .slice B lb cb]] w fun e' w' => ∃ v, e' = .returned v ∧ LLq w.heap.size w' v (mxL n o X Y) ∧ Below w.heap.size w w' := by
  obtain ⟨s, hs⟩ : ∃ s, w.heap.size = s := ⟨_, rfl⟩
  obtain ⟨W, hW⟩ : ∃ W, w.alloc (.cells #[.int .i64 n, .int .i64 o, .slice A la ca, .slice B lb cb] 27) = W := ⟨_, rfl⟩
  have k0 : Blk W s 27 #[.int .i64 n, .int .i64 o, .slice A la ca, .slice B lb cb] := by
    subst hW hs; exact Blk.new w _ _
  have b0 : Below s w W := by
    subst hW hs; exact (Below.refl _ _).alloc (Nat.le_refl _) _
  obtain ⟨c0, c1, c2, c3⟩ := blk4 k0
  have HX := Lib.hid (hX.next (hs ▸ b0))
  have HY := Lib.hid (hY.next (hs ▸ b0))
  have K0 := Lib.hid k0
  have B0 := Lib.hid b0
  have HW := Lib.hid hW
  have hs0 := k0.lt
  have EG := Lib.hid (enters_of Try.func22 (by kernel_rfl) rfl)
  obtain ⟨hzs, _⟩ := als_facts (n := n) (o := o) hX hY hca hcb
  clear k0 hW b0 hX hY
  rw [hs]
  go_enter Try.func16, Try.ntmps16
  go_wp2_with (fail)
  rw [HW.out]
  refine (als_any n o A B la ca lb cb X Y W HX.out HY.out hla hlb hca hcb).mono ?_
  rintro e1 w1 ⟨v, rfl, ho, hb1⟩
  have HO := Lib.hid ho
  have B1 := Lib.hid hb1
  have s1 := hb1.size
  clear hb1 ho c0 c1 c2 c3
  go_wp2_with (fail)
  have HV := Lib.hid (show ∀ V, w1.grownBy V v.ownBlock → Below W.heap.size W V from fun V hV => B1.out.grown hV s1 (fun k e => by
    obtain ⟨xs, h1, _⟩ := HO.out
    exact (h1.lt k e).1))
  refine (delF_any W.heap.size v (alsL n o X Y) (fun Z => !mxmB n o X Y Z) 22 #[.pointer (some ⟨s, 0, none⟩)] w1 HO.out (by omega) s1 EG.out (fun i Z C c hZ V hV hI hc hl => othF_any s n o A B C la ca lb cb Z.length c X Y Z V (K0.out.next (HV.out V hV)) (HX.out.next (HV.out V hV)) (HY.out.next (HV.out V hV)) hI hla hlb (by omega) hca hcb)).mono ?_
  rintro e2 w2 ⟨v2, rfl, ho2, hb2⟩
  have HO2 := Lib.hid ho2
  have B2 := Lib.hid (B0.out.trans ((B1.out.trans hb2).mono (by omega)))
  clear hb2 ho2
  go_wp2
  go_ret
  refine ⟨v2, rfl, ?_, B2.out⟩
  have h := HO2.out
  rw [show (fun Z => !(fun Z => !mxmB n o X Y Z) Z) = fun Z => mxmB n o X Y Z from funext fun Z => Bool.not_not _] at h
  exact h.down (by omega)

end Go.Proofs.Ytbppikjhhifmcaa

