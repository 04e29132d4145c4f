/- Texts of this seat in one: PA PB PC PD PE PF PG PP. -/
import Derived.Test.YtdhjcgbaaghnoaaMN
import Derived.Test.YtdhjcgbaaghnoaaMO
import Derived.Maps.AppendAt
import Derived.Test.YtdhjcgbaaghnoaaMC

/- Plain facts: the classes of elements by an ideal. No program in sight. -/
namespace Go.Proofs.Ytdhjcgbaaghnoaa
open Go.RowKit

/-- The class of an element by an ideal. -/
noncomputable def cosB (m : Nat) (S : Nat → Nat) (p : Nat → Bool) (a x : Nat) : Bool := propB (∃ b, p b = true ∧ S (a * m + b) = x)
/-- The least elements of the classes of those below k. -/
noncomputable def leas (m : Nat) (S : Nat → Nat) (p : Nat → Bool) : Nat → List Nat
  | 0 => []
  | k + 1 => if (leas m S p k).any (fun a => cosB m S p a k) = true then leas m S p k else leas m S p k ++ [k]
/-- The index of the class of an element, among those of the elements below k. -/
noncomputable def namK (m : Nat) (S : Nat → Nat) (p : Nat → Bool) (k x : Nat) : Nat := (leas m S p k).findIdx (fun a => cosB m S p a x)

section
variable {m e : Nat} {S P : Nat → Nat} {p : Nat → Bool}
theorem cos_iff {a x : Nat} : cosB m S p a x = true ↔ ∃ b, p b = true ∧ S (a * m + b) = x := propB_iff
theorem leas_no {k : Nat} (h : (leas m S p k).any (fun a => cosB m S p a k) = true) : leas m S p (k + 1) = leas m S p k := if_pos h
theorem leas_yes {k : Nat} (h : (leas m S p k).any (fun a => cosB m S p a k) = false) : leas m S p (k + 1) = leas m S p k ++ [k] := if_neg (by rw [h]; simp)
theorem leas_lt : ∀ {k a : Nat}, a ∈ leas m S p k → a < k
  | 0, a, h => by cases h
  | k + 1, a, h => by
    cases hc : (leas m S p k).any (fun a => cosB m S p a k)
    · rw [leas_yes hc, List.mem_append, List.mem_singleton] at h
      rcases h with h | rfl
      · have := leas_lt h; omega
      · omega
    · rw [leas_no hc] at h
      have := leas_lt h; omega
theorem leas_nodup : ∀ k, (leas m S p k).Nodup
  | 0 => List.nodup_nil
  | k + 1 => by
    cases hc : (leas m S p k).any (fun a => cosB m S p a k)
    · rw [leas_yes hc, List.nodup_append]
      refine ⟨leas_nodup k, by simp, fun a ha b hb => ?_⟩
      rw [List.mem_singleton] at hb
      have := leas_lt ha
      omega
    · rw [leas_no hc]; exact leas_nodup k
theorem leas_len : ∀ k, (leas m S p k).length ≤ k
  | 0 => Nat.le_refl _
  | k + 1 => by
    have := leas_len k
    cases hc : (leas m S p k).any (fun a => cosB m S p a k)
    · rw [leas_yes hc]; simp; omega
    · rw [leas_no hc]; omega
theorem leas_pre {k : Nat} : ∀ d, leas m S p k <+: leas m S p (k + d)
  | 0 => List.prefix_refl _
  | d + 1 => by
    refine (leas_pre d).trans ?_
    rw [← Nat.add_assoc]
    cases hc : (leas m S p (k + d)).any (fun a => cosB m S p a (k + d))
    · rw [leas_yes hc]; exact List.prefix_append _ _
    · rw [leas_no hc]; exact List.prefix_refl _
theorem RTab.cos_lt (R : RTab m S P e) (hp : Idl m S P p) {a x : Nat} (ha : a < m) (h : cosB m S p a x = true) : x < m := by
  obtain ⟨b, hb, rfl⟩ := cos_iff.1 h
  exact R.sc ha (hp.lt b hb)
theorem RTab.cos_refl (R : RTab m S P e) (hp : Idl m S P p) {a : Nat} (ha : a < m) : cosB m S p a a = true := cos_iff.2 ⟨0, hp.z, R.A00 ha⟩
theorem RTab.idl_neg (R : RTab m S P e) (hp : Idl m S P p) {b : Nat} (hb : p b = true) : ∃ c, p c = true ∧ S (b * m + c) = 0 := by
  obtain ⟨n, hn, _, h⟩ := R.negEx R.he
  refine ⟨P (b * m + n), hp.t b n hb hn, ?_⟩
  have := R.mul_neg (hp.lt b hb) R.he hn h
  rwa [R.M11 (hp.lt b hb)] at this
theorem RTab.cos_symm (R : RTab m S P e) (hp : Idl m S P p) {a x : Nat} (ha : a < m) (h : cosB m S p a x = true) : cosB m S p x a = true := by
  obtain ⟨b, hb, rfl⟩ := cos_iff.1 h
  obtain ⟨c, hc, h0⟩ := R.idl_neg hp hb
  exact cos_iff.2 ⟨c, hc, by rw [R.Aas ha (hp.lt b hb) (hp.lt c hc), h0, R.A00 ha]⟩
theorem RTab.cos_trans (R : RTab m S P e) (hp : Idl m S P p) {a x y : Nat} (ha : a < m) (h : cosB m S p a x = true) (h' : cosB m S p x y = true) : cosB m S p a y = true := by
  obtain ⟨b, hb, rfl⟩ := cos_iff.1 h
  obtain ⟨c, hc, rfl⟩ := cos_iff.1 h'
  exact cos_iff.2 ⟨S (b * m + c), hp.s b c hb hc, (R.Aas ha (hp.lt b hb) (hp.lt c hc)).symm⟩
theorem RTab.leas_cover (R : RTab m S P e) (hp : Idl m S P p) : ∀ {k x : Nat}, k ≤ m → x < k → ∃ a ∈ leas m S p k, cosB m S p a x = true
  | 0, x, _, h => by omega
  | k + 1, x, hk, h => by
    cases hc : (leas m S p k).any (fun a => cosB m S p a k)
    · rw [leas_yes hc]
      by_cases hx : x = k
      · subst hx; exact ⟨x, by simp, R.cos_refl hp (by omega)⟩
      · obtain ⟨a, h1, h2⟩ := R.leas_cover hp (k := k) (x := x) (by omega) (by omega)
        exact ⟨a, List.mem_append_left _ h1, h2⟩
    · rw [leas_no hc]
      by_cases hx : x = k
      · subst hx
        obtain ⟨a, h1, h2⟩ := List.any_eq_true.1 hc
        exact ⟨a, h1, h2⟩
      · exact R.leas_cover hp (by omega) (by omega)
/-- An element behind a class is in it only if the class has its own class's elements. -/
theorem RTab.leas_apart (R : RTab m S P e) (hp : Idl m S P p) : ∀ {k a a' x : Nat}, k ≤ m → a ∈ leas m S p k → a' ∈ leas m S p k → cosB m S p a x = true → cosB m S p a' x = true → a = a'
  | 0, a, a', x, _, h, _, _, _ => by cases h
  | k + 1, a, a', x, hk, h, h', hx, hx' => by
    cases hc : (leas m S p k).any (fun a => cosB m S p a k)
    · rw [leas_yes hc, List.mem_append, List.mem_singleton] at h h'
      have no : ∀ {b : Nat}, b ∈ leas m S p k → cosB m S p b x = true → cosB m S p k x = true → False := fun {b} hb h1 h2 => by
        have hbm : b < m := Nat.lt_of_lt_of_le (leas_lt hb) (by omega)
        have := R.cos_trans hp hbm h1 (R.cos_symm hp (by omega) h2)
        rw [List.any_eq_true.2 ⟨b, hb, this⟩] at hc
        cases hc
      rcases h with h | rfl <;> rcases h' with h' | rfl
      · exact R.leas_apart hp (by omega) h h' hx hx'
      · exact (no h hx hx').elim
      · exact (no h' hx' hx).elim
      · rfl
    · rw [leas_no hc] at h h'
      exact R.leas_apart hp (by omega) h h' hx hx'
theorem RTab.leas_fresh (R : RTab m S P e) : ∀ {k a : Nat}, a ∈ leas m S p k → (leas m S p a).any (fun b => cosB m S p b a) = false
  | 0, a, h => by cases h
  | k + 1, a, h => by
    cases hc : (leas m S p k).any (fun a => cosB m S p a k)
    · rw [leas_yes hc, List.mem_append, List.mem_singleton] at h
      rcases h with h | rfl
      · exact R.leas_fresh h
      · exact hc
    · rw [leas_no hc] at h
      exact R.leas_fresh h
theorem RTab.leas_least (R : RTab m S P e) (hp : Idl m S P p) {k a x : Nat} (hk : k ≤ m) (h : a ∈ leas m S p k) (hx : cosB m S p a x = true) : a ≤ x := by
  rcases Nat.lt_or_ge x a with hlt | hge
  · have ham : a < m := Nat.lt_of_lt_of_le (leas_lt h) hk
    obtain ⟨b, hb, h2⟩ := R.leas_cover hp (k := a) (x := x) (by omega) hlt
    have := R.cos_trans hp (Nat.lt_of_lt_of_le (leas_lt hb) (by omega)) h2 (R.cos_symm hp ham hx)
    have hf := R.leas_fresh h
    rw [List.any_eq_true.2 ⟨b, hb, this⟩] at hf
    cases hf
  · exact hge
theorem sel_none {k : Nat} (h : ∀ x, x < k → p x = false) : selTo m p k = [] := by
  induction k with
  | zero => rfl
  | succ k ih => rw [selTo_no (h k (by omega)), ih fun x hx => h x (by omega)]
/-- The least element of a set comes first. -/
theorem lst_first {a : Nat} (ha : a < m) (h : p a = true) (hl : ∀ x, p x = true → a ≤ x) : ∃ t, lstP m p = (a : Int) :: t := by
  have h0 : selTo m p a = [] := sel_none fun x hx => by
    cases hp : p x
    · rfl
    · have := hl x hp; omega
  have h1 : selTo m p (a + 1) = [⟨a, ha⟩] := by rw [selTo_yes ha h, h0]; rfl
  obtain ⟨t, ht⟩ := selTo_le (m := m) (p := p) (show a + 1 ≤ m from ha)
  exact ⟨finI t, by unfold lstP; rw [← ht, h1]; simp [finI]⟩
theorem RTab.class_first (R : RTab m S P e) (hp : Idl m S P p) {a : Nat} (h : a ∈ leas m S p m) : ∃ t, lstP m (cosB m S p a) = (a : Int) :: t :=
  lst_first (leas_lt h) (R.cos_refl hp (leas_lt h)) fun _ hx => R.leas_least hp (Nat.le_refl _) h hx

/-! ### names -/
theorem findIdx_app {l : List Nat} {f : Nat → Bool} {t : List Nat} (h : l.any f = true) : (l ++ t).findIdx f = l.findIdx f := by
  rw [List.findIdx_append]
  rw [if_pos]
  rw [List.findIdx_lt_length]
  obtain ⟨x, h1, h2⟩ := List.any_eq_true.1 h
  exact ⟨x, h1, h2⟩
theorem findIdx_new {l : List Nat} {f : Nat → Bool} {a : Nat} (h : l.any f = false) (ha : f a = true) : (l ++ [a]).findIdx f = l.length := by
  rw [List.findIdx_append]
  have h1 : l.findIdx f = l.length := by
    rw [List.findIdx_eq_length]
    intro x hx
    rw [← Bool.not_eq_true]
    intro hf
    rw [List.any_eq_true.2 ⟨x, hx, hf⟩] at h
    cases h
  rw [if_neg (by omega)]
  simp [List.findIdx_cons, ha]
theorem nam_get {k x : Nat} (h : (leas m S p k).any (fun a => cosB m S p a x) = true) : ∃ h : namK m S p k x < (leas m S p k).length, cosB m S p ((leas m S p k)[namK m S p k x]) x = true := by
  have hl : namK m S p k x < (leas m S p k).length := by
    unfold namK
    rw [List.findIdx_lt_length]
    obtain ⟨y, h1, h2⟩ := List.any_eq_true.1 h
    exact ⟨y, h1, h2⟩
  exact ⟨hl, List.findIdx_getElem (w := hl)⟩
theorem RTab.nam_uniq (R : RTab m S P e) (hp : Idl m S P p) {k i x : Nat} (hk : k ≤ m) (hi : i < (leas m S p k).length) (h : cosB m S p ((leas m S p k)[i]) x = true) : namK m S p k x = i := by
  obtain ⟨hl, h2⟩ := nam_get (k := k) (x := x) (List.any_eq_true.2 ⟨_, List.getElem_mem hi, h⟩)
  have e1 := R.leas_apart hp hk (List.getElem_mem hl) (List.getElem_mem hi) h2 h
  exact (List.getElem_inj (leas_nodup k)).1 e1
end
end Go.Proofs.Ytdhjcgbaaghnoaa


/- A slice of slices of ints that the call itself makes, one element after another. -/
namespace Go.Proofs.Ytdhjcgbaaghnoaa
open Go.RowKit Go.Shelf
set_option maxRecDepth 100000

theorem sl_info : (Try.prog.info? 22).map (fun i => (i.zero, i.size, i.bytes)) = some (some (.slice none 0 0), 1, 24) := by kernel_rfl
/-- These values are slices of the call's own, with these contents, and none lies in the row that holds them. -/
def LLs (D : Nat) (w : World) (row : Option Nat) (xs : List Value) (ZZ : List (List Int)) : Prop :=
  xs.length = ZZ.length ∧ ∀ (i : Nat) (Z : List Int), ZZ[i]? = some Z → ∃ (B : Option Addr) (l c : Nat), xs[i]? = some (Value.slice B l c) ∧ Own w D B l Z ∧ l ≤ c ∧ l ≤ 1048570 ∧ ∀ (g off : Nat), 0 < l → B = some ⟨g, off, none⟩ → row ≠ some g
/-- A slice of slices of ints of the call's own. -/
def LLo (D : Nat) (w : World) (v : Value) (ZZ : List (List Int)) : Prop := ∃ xs, w.ownsRow D 22 1 v ZZ.length xs ∧ LLs D w v.ownBlock xs ZZ

theorem Own.grown_ {D n : Nat} {A : Option Addr} {xs : List Int} {w w' : World} {row : Option Nat} (h : Own w D A n xs) (hg : w.grownBy w' row) (hap : ∀ g off, 0 < n → A = some ⟨g, off, none⟩ → row ≠ some g) : Own w' D A n xs :=
  ⟨h.1, fun hn => by
    obtain ⟨g, off, e, hD, hlt, hc⟩ := h.2 hn
    have hb : w'.heap[g]? = w.heap[g]? := hg.block g hlt (fun e' => hap g off hn e e'.symm)
    refine ⟨g, off, e, hD, Nat.lt_of_lt_of_le hlt hg.size, fun k hk => ?_⟩
    rw [World.cell?_of_block (a := ⟨g, off + k, none⟩) hb, World.frozen?_of_block (a := ⟨g, off + k, none⟩) hb]
    exact hc k hk⟩
/-- A store into a block that holds no ints. -/
theorem Own.setc {D n b i : Nat} {A : Option Addr} {xs : List Int} {w : World} {t : TypeId} {cs : Array Value} {u : Value} (h : Own w D A n xs) (hb : Blk w b t cs) (hi : ∀ (k : Nat) (x : Int), cs[k]? ≠ some (.int .i64 x)) : Own (w.setCell ⟨b, i, none⟩ u) D A n xs :=
  ⟨h.1, fun hn => by
    obtain ⟨g, off, e, hD, hlt, hc⟩ := h.2 hn
    have hne : g ≠ b := by
      rintro rfl
      have := (hc 0 hn).1
      rw [hb.cell] at this
      exact hi _ _ this
    have he : (w.setCell ⟨b, i, none⟩ u).heap[g]? = w.heap[g]? := Below.heap_setCell w ⟨b, i, none⟩ u g hne
    refine ⟨g, off, e, hD, Nat.lt_of_lt_of_le hlt ((Below.refl 0 w).setCell (p := ⟨b, i, none⟩) (Nat.zero_le _) u).size, fun k hk => ?_⟩
    rw [World.cell?_of_block (a := ⟨g, off + k, none⟩) he, World.frozen?_of_block (a := ⟨g, off + k, none⟩) he]
    exact hc k hk⟩
theorem LLs.next {D : Nat} {w w' : World} {row : Option Nat} {xs : List Value} {ZZ : List (List Int)} (h : LLs D w row xs ZZ) (hb : Below w.heap.size w w') : LLs D w' row xs ZZ :=
  ⟨h.1, fun i Z hZ => by obtain ⟨B, l, c, h1, h2, h3⟩ := h.2 i Z hZ; exact ⟨B, l, c, h1, h2.next hb, h3⟩⟩
theorem LLo.next {D : Nat} {w w' : World} {v : Value} {ZZ : List (List Int)} (h : LLo D w v ZZ) (hb : Below w.heap.size w w') : LLo D w' v ZZ := by
  obtain ⟨xs, h1, h2⟩ := h
  exact ⟨xs, own_nextK h1 hb, h2.next hb⟩
theorem LLo.setc {D b i : Nat} {w : World} {v u : Value} {ZZ : List (List Int)} {t : TypeId} {cs : Array Value} (h : LLo D w v ZZ) (hb : Blk w b t cs) (ht : 22 ≠ t) (hi : ∀ (k : Nat) (x : Int), cs[k]? ≠ some (.int .i64 x)) : LLo D (w.setCell ⟨b, i, none⟩ u) v ZZ := by
  obtain ⟨xs, h1, h2⟩ := h
  refine ⟨xs, ?_, h2.1, fun j Z hZ => ?_⟩
  · have hne := own_blk_ne h1 hb ht
    exact h1.kept (row := some b) (by
      have h0 := (Below.refl 0 w).setCell (p := ⟨b, i, none⟩) (Nat.zero_le _) u
      exact ⟨h0.os, h0.tape, h0.output, h0.size, fun k _ hk => Below.heap_setCell w ⟨b, i, none⟩ u k (fun e => hk (by rw [e]))⟩) (.inr (fun e => hne e.symm))
  · obtain ⟨B, l, c, e1, e2, e3⟩ := h2.2 j Z hZ
    exact ⟨B, l, c, e1, e2.setc hb hi, e3⟩
theorem LLo.empty {D : Nat} {w : World} {v : Value} (h : w.ownsRow D 22 1 v 0 []) : LLo D w v [] := ⟨[], h, rfl, fun i Z hZ => by simp at hZ⟩
/-- One more. -/
theorem LLo.more {D l c : Nat} {w w' : World} {v v' : Value} {xs : List Value} {ZZ : List (List Int)} {Z : List Int} {B : Option Addr} {o : Obj} (_hv : w.ownsRow D 22 1 v ZZ.length xs) (h : LLs D w v.ownBlock xs ZZ) (hB : Own w D B l Z) (hl : l ≤ c) (hl' : l ≤ 1048570)
    (hap : ∀ g off, 0 < l → B = some ⟨g, off, none⟩ → v.ownBlock ≠ some g) (hw' : w'.ownsRow D 22 1 v' (ZZ.length + 1) (xs ++ [.slice B l c])) (hg : (w.alloc o).grownBy w' v.ownBlock) (hloc : v'.ownBlock = v.ownBlock ∨ v'.ownBlock = some (w.alloc o).heap.size) : LLo D w' v' (ZZ ++ [Z]) := by
  have hg0 : w.grownBy w' v.ownBlock := ⟨hg.os, hg.tape, hg.output, Nat.le_trans (by simp) hg.size, fun k hk hr => (hg.block k (by simp; omega) hr).trans (Below.heap_alloc w o k hk)⟩
  have new : ∀ {B : Option Addr} {n : Nat} {Z : List Int}, Own w D B n Z → (∀ g off, 0 < n → B = some ⟨g, off, none⟩ → v.ownBlock ≠ some g) → ∀ g off, 0 < n → B = some ⟨g, off, none⟩ → v'.ownBlock ≠ some g := fun {B n Z} hO hA g off hn e e' => by
    rcases hloc with h1 | h1
    · exact hA g off hn e (h1 ▸ e')
    · obtain ⟨g2, off2, e2, _, hlt, _⟩ := hO.2 hn
      rw [e] at e2
      simp only [Option.some.injEq, Addr.mk.injEq, and_true] at e2
      rw [h1] at e'
      simp at e'
      omega
  refine ⟨xs ++ [.slice B l c], by simpa using hw', by simp [h.1], fun i Y hY => ?_⟩
  rcases Nat.lt_or_ge i ZZ.length with hi | hi
  · rw [List.getElem?_append_left hi] at hY
    obtain ⟨B1, l1, c1, e1, e2, e3, e4, e5⟩ := h.2 i Y hY
    exact ⟨B1, l1, c1, by rw [List.getElem?_append_left (by rw [h.1]; exact hi)]; exact e1, e2.grown_ hg0 e5, e3, e4, new e2 e5⟩
  · rw [List.getElem?_append_right hi] at hY
    have e0 : i - ZZ.length = 0 := by
      have := (List.getElem?_eq_some_iff.1 hY).1
      simp at this
      omega
    rw [e0] at hY
    simp at hY
    subst hY
    refine ⟨B, l, c, ?_, hB.grown_ hg0 hap, hl, hl', new hB hap⟩
    rw [List.getElem?_append_right (by rw [h.1]; exact hi), h.1, e0]
    rfl

/-- A slice of slices of ints that can be read. -/
def LLi (w : World) (v : Value) (ZZ : List (List Int)) : Prop := ∃ g cap, v = .slice (some ⟨g, 0, none⟩) ZZ.length cap ∧ ZZ.length ≤ cap ∧ g < w.heap.size ∧ ∀ (i : Nat) (Z : List Int), ZZ[i]? = some Z → ∃ (B : Option Addr) (c : Nat), w.cell? ⟨g, i, none⟩ = some (.slice B Z.length c) ∧ Z.length ≤ c ∧ Z.length ≤ 1048570 ∧ Ints w w.heap.size B Z.length Z
theorem LLi.next {w w' : World} {v : Value} {ZZ : List (List Int)} (h : LLi w v ZZ) (hb : Below w.heap.size w w') : LLi w' v ZZ := by
  obtain ⟨g, cap, e, h1, h2, h3⟩ := h
  refine ⟨g, cap, e, h1, Nat.lt_of_lt_of_le h2 hb.size, fun i Z hZ => ?_⟩
  obtain ⟨B, c, e1, e2, e3, e4⟩ := h3 i Z hZ
  exact ⟨B, c, (hb.cell (p := ⟨g, i, none⟩) h2).trans e1, e2, e3, e4.next hb⟩
theorem LLo.read {D : Nat} {w : World} {v : Value} {ZZ : List (List Int)} (h : LLo D w v ZZ) (hn : 1 ≤ ZZ.length) : LLi w v ZZ := by
  obtain ⟨xs, h1, h2⟩ := h
  rcases h1.2 with ⟨_, h0⟩ | ⟨g, cap, cur, rfl, hg, hb, hc, _, hs, ht⟩
  · omega
  · have hb' : Blk w g 22 cur := hb
    refine ⟨g, cap, rfl, hc, hb'.lt, fun i Z hZ => ?_⟩
    obtain ⟨B, l, c, e1, e2, e3, e4, _⟩ := h2.2 i Z hZ
    have hl := e2.1
    have hi : i < ZZ.length := (List.getElem?_eq_some_iff.1 hZ).1
    refine ⟨B, c, ?_, by rw [hl]; exact e3, by rw [hl]; exact e4, by rw [hl]; exact e2.ints⟩
    rw [hb'.cell i, hl]
    have e5 : cur.toList[i]? = xs[i]? := by rw [← ht, List.getElem?_take]; simp; omega
    rw [← Array.getElem?_toList, e5, e1]

end Go.Proofs.Ytdhjcgbaaghnoaa


/- l5Classes of the reading side. -/
namespace Go.Proofs.Ytdhjcgbaaghnoaa
open Go.RowKit Go.Shelf
set_option maxRecDepth 100000

theorem setP_noInt {p : Nat → Bool} : ∀ (k : Nat) (x : Int), (setP p)[k]? ≠ some (.int .i64 x) := fun k x h => by
  unfold setP at h
  rw [Array.getElem?_map] at h
  cases hr : (Array.range 16)[k]? with
  | none => rw [hr] at h; cases h
  | some y => rw [hr] at h; cases h
/-- The elements whose class has come so far. -/
noncomputable def donB (m : Nat) (S : Nat → Nat) (p : Nat → Bool) (k x : Nat) : Bool := (leas m S p k).any (fun a => cosB m S p a x)
noncomputable def clsL (m : Nat) (S : Nat → Nat) (p : Nat → Bool) (k : Nat) : List (List Int) := (leas m S p k).map fun a => lstP m (cosB m S p a)
section
variable {m k : Nat} {S : Nat → Nat} {p : Nat → Bool}
theorem don_zero : donB m S p 0 = fun _ => false := funext fun _ => rfl
theorem don_no (h : donB m S p k k = true) : donB m S p (k + 1) = donB m S p k := funext fun x => by unfold donB; rw [leas_no h]
theorem don_yes (h : donB m S p k k = false) : donB m S p (k + 1) = fun x => donB m S p k x || cosB m S p k x := funext fun x => by unfold donB; rw [leas_yes h]; simp
theorem cls_no (h : donB m S p k k = true) : clsL m S p (k + 1) = clsL m S p k := by unfold clsL; rw [leas_no h]
theorem cls_yes (h : donB m S p k k = false) : clsL m S p (k + 1) = clsL m S p k ++ [lstP m (cosB m S p k)] := by unfold clsL; rw [leas_yes h]; simp
theorem cls_len : (clsL m S p k).length ≤ k := by unfold clsL; rw [List.length_map]; exact leas_len k
theorem acc_cos (hp : ∀ i, p i = true → i < m) : accB S (fun _ => false) (k * m) (finN (selTo m p m)) = cosB m S p k := bool_ext fun x => by
  unfold accB
  rw [Bool.false_or, decide_eq_true_iff, List.mem_map, cos_iff]
  constructor
  · rintro ⟨b, hb, rfl⟩; exact ⟨b, (lst_in.1 hb).2, rfl⟩
  · rintro ⟨b, hb, rfl⟩; exact ⟨b, lst_in.2 ⟨hp b hb, hb⟩, rfl⟩
theorem acc_don (hp : ∀ i, p i = true → i < m) : accB S (donB m S p k) (k * m) (finN (selTo m p m)) = fun x => donB m S p k x || cosB m S p k x := by
  rw [← acc_cos hp]
  funext x
  simp [accB]
end

end Go.Proofs.Ytdhjcgbaaghnoaa


/- l5Map of the reading side: the index of the class of each element. -/
namespace Go.Proofs.Ytdhjcgbaaghnoaa
open Go.RowKit Go.Shelf
set_option maxRecDepth 100000

/-- A row of numbers. -/
def rowP (m : Nat) (f : Nat → Nat) : Array Value := (Array.range m).map fun i => .int .i64 (f i : Int)
section
variable {m : Nat} {f h : Nat → Nat}
theorem rowP_size : (rowP m f).size = m := by simp [rowP]
theorem rowP_get {i : Nat} (hi : i < m) : (rowP m f)[i]? = some (.int .i64 (f i : Int)) := by simp [rowP, hi]
theorem rowP_ext (hf : ∀ i, i < m → f i = h i) : rowP m f = rowP m h := by
  unfold rowP
  refine Array.map_congr_left fun i hi => ?_
  rw [hf i (by simpa using hi)]
theorem rowP_set {k c : Nat} : (rowP m f).setIfInBounds k (.int .i64 (c : Int)) = rowP m (fun x => if x = k then c else f x) := by
  refine Array.ext' ?_
  refine List.ext_getElem? fun j => ?_
  rw [Array.getElem?_toList, Array.getElem?_toList, Array.getElem?_setIfInBounds]
  by_cases hj : j < m
  · rw [rowP_get (f := fun x => if x = k then c else f x) hj]
    by_cases hk : k = j
    · subst hk; simp [rowP_size, hj]
    · rw [if_neg hk, rowP_get hj]
      simp [Ne.symm hk]
  · have e1 : (rowP m f)[j]? = none := by rw [Array.getElem?_eq_none]; rw [rowP_size]; omega
    have e2 : (rowP m (fun x => if x = k then c else f x))[j]? = none := by rw [Array.getElem?_eq_none]; rw [rowP_size]; omega
    rw [e1, e2]
    by_cases hk : k = j
    · subst hk; simp [rowP_size, hj]
    · rw [if_neg hk]
end
/-- A row that is full lies in its block. -/
theorem full_blk {w : World} {base n g : Nat} {e : TypeId} {xs : List Value} (h : w.ownsRow base e 1 (.slice (some ⟨g, 0, none⟩) n n) n xs) : Blk w g e xs.toArray ∧ base ≤ g := by
  rcases h.2 with ⟨h0, _⟩ | ⟨g', cap, cur, e1, hb, hg, _, _, hs, ht⟩
  · cases h0
  · simp only [Value.slice.injEq, Option.some.injEq, Addr.mk.injEq, and_true, true_and] at e1
    obtain ⟨rfl, rfl⟩ := e1
    have : cur = xs.toArray := by
      refine Array.ext' ?_
      rw [← ht, List.take_of_length_le (by simp; omega)]
    subst this
    exact ⟨hg, hb⟩

/-- The names of the elements of the first classes. -/
noncomputable def nmI (m : Nat) (S : Nat → Nat) (p : Nat → Bool) (i x : Nat) : Nat := if namK m S p m x < i then namK m S p m x else 0
/-- .. and of some of the next one's. -/
noncomputable def nmJ (m : Nat) (S : Nat → Nat) (p : Nat → Bool) (i : Nat) (l : List Nat) (x : Nat) : Nat := if decide (x ∈ l) = true then i else nmI m S p i x
section
variable {m e i : Nat} {S P : Nat → Nat} {p : Nat → Bool}
theorem nmI_zero : nmI m S p 0 = fun _ => 0 := funext fun x => by unfold nmI; rw [if_neg (by omega)]
theorem nmJ_nil : nmJ m S p i [] = nmI m S p i := funext fun x => by unfold nmJ; simp
theorem nmJ_snoc {l : List Nat} {u : Nat} : (fun x => if x = u then i else nmJ m S p i l x) = nmJ m S p i (l ++ [u]) := funext fun x => by
  unfold nmJ
  by_cases h : x = u
  · simp [h]
  · simp [h]
theorem RTab.nm_step (R : RTab m S P e) (hp : Idl m S P p) {a : Nat} (hi : (leas m S p m)[i]? = some a) {x : Nat} (hx : x < m) : nmJ m S p i (finN (selTo m (cosB m S p a) m)) x = nmI m S p (i + 1) x := by
  obtain ⟨hl, ha⟩ := List.getElem?_eq_some_iff.1 hi
  have ham : a < m := leas_lt (k := m) (by rw [← ha]; exact List.getElem_mem hl)
  unfold nmJ nmI
  by_cases hc : cosB m S p a x = true
  · have e1 : namK m S p m x = i := R.nam_uniq hp (Nat.le_refl _) hl (by rw [ha]; exact hc)
    rw [if_pos (by rw [decide_eq_true_iff]; exact lst_in.2 ⟨hx, hc⟩), e1, if_pos (by omega)]
  · rw [if_neg (by rw [decide_eq_true_iff]; intro h; exact hc (lst_in.1 h).2)]
    have hne : namK m S p m x ≠ i := fun e1 => by
      obtain ⟨b, hb, hb2⟩ := R.leas_cover hp (Nat.le_refl m) hx
      obtain ⟨hl2, h2⟩ := nam_get (k := m) (x := x) (List.any_eq_true.2 ⟨b, hb, hb2⟩)
      subst e1
      rw [ha] at h2
      exact hc h2
    by_cases h1 : namK m S p m x < i
    · rw [if_pos h1, if_pos (by omega)]
    · rw [if_neg h1, if_neg (by omega)]
theorem RTab.nam_lt (R : RTab m S P e) (hp : Idl m S P p) {x : Nat} (hx : x < m) : namK m S p m x < (leas m S p m).length := by
  obtain ⟨b, hb, hb2⟩ := R.leas_cover hp (Nat.le_refl m) hx
  exact (nam_get (k := m) (x := x) (List.any_eq_true.2 ⟨b, hb, hb2⟩)).1
theorem RTab.nm_all (R : RTab m S P e) (hp : Idl m S P p) {x : Nat} (hx : x < m) : nmI m S p (leas m S p m).length x = namK m S p m x := if_pos (R.nam_lt hp hx)
end

theorem cls_get {m k i a : Nat} {S : Nat → Nat} {p : Nat → Bool} (h : (leas m S p k)[i]? = some a) : (clsL m S p k)[i]? = some (lstP m (cosB m S p a)) := by unfold clsL; rw [List.getElem?_map, h]; rfl
theorem row_zero {m : Nat} : ((madeCells (Value.int .i64 0).cells (m * 1)).toList).toArray = rowP m (fun _ => 0) := by
  rw [fillL_zero (xs := [])]
  unfold fillL rowP
  refine Array.ext' ?_
  simp

end Go.Proofs.Ytdhjcgbaaghnoaa


/- An append to a row of the call's own inside a region that draws its order. -/
namespace Go.Proofs.Ytdhjcgbaaghnoaa
open Go.RowKit Go.Shelf
set_option maxRecDepth 100000

def numL (k : Nat) (f : Nat → Nat) : List Int := (List.range k).map fun j => (f j : Int)
def numV (k : Nat) (f : Nat → Nat) : List Value := (numL k f).map (.int .i64)
section
variable {k : Nat} {f : Nat → Nat}
theorem numL_len : (numL k f).length = k := by simp [numL]
theorem numL_succ : numL (k + 1) f = numL k f ++ [(f k : Int)] := by simp [numL, List.range_succ]
theorem numV_succ : numV (k + 1) f = numV k f ++ [.int .i64 (f k : Int)] := by simp [numV, numL_succ]
theorem numV_len : (numV k f).length = k := by simp [numV, numL_len]
theorem numV_zero : numV 0 f = [] := rfl
end
def OwnK (D k : Nat) (f : Nat → Nat) (v : Value) (w : World) : Prop := w.ownsRow D 3 1 v k (numV k f)
theorem OwnK.kept0 {D k : Nat} {f : Nat → Nat} {v : Value} {w w' : World} (h : OwnK D k f v w) (hg : w.grownBy w' none) : OwnK D k f v w' := World.ownsRow.kept h hg (by cases hv : v.ownBlock <;> simp)
theorem addr_add (b off j : Nat) : (⟨b, off, none⟩ : Addr).add j = ⟨b, off + j, none⟩ := by simp [Addr.add]
/-- .. and what has been appended stays, whichever of the values that own it is meant. -/
theorem run_app {D k b : Nat} {f : Nat → Nat} {v : Value} {x : World} (ty : TypeId) (hv : OwnK D k f v x) (hb : x.cell? ⟨b, 0, none⟩ = some (.int .i64 (f k : Int))) (hk : k ≤ 1000) (hD : D ≤ x.heap.size) :
    ∃ v' x', (Builtin.append_ #[22, 22] ty #[v, .slice (some ⟨b, 0, none⟩) 1 1]).run Try.prog x = .ok v' x' ∧ OwnK D (k + 1) f v' x' ∧ x.grownBy x' v.ownBlock ∧ (v'.ownBlock = v.ownBlock ∨ v'.ownBlock = some x.heap.size) ∧ (∀ u, OwnK D (k + 1) f u x → OwnK D (k + 1) f u x') ∧ ∀ u, OwnK D k f u x → OwnK D k f u x' := by
  obtain ⟨i0, hi, hz0, hz1, hz2⟩ := info_parts int_info
  have hsrc : ∀ (j : Nat) (u : Value), ([Value.int .i64 (f k : Int)])[j]? = some u → x.cell? ((⟨b, 0, none⟩ : Addr).add j) = some u := fun j u hu => by
    have hj : j = 0 := by
      have := (List.getElem?_eq_some_iff.1 hu).1
      simp at this
      exact this
    subst hj
    simp at hu
    subst hu
    simpa [Addr.add] using hb
  have h1c : ∀ u ∈ [Value.int .i64 (f k : Int)], u.oneCell' = true := fun u hu => by simp at hu; subst hu; rfl
  obtain ⟨v', x', hrun, h1, h2, _, h4⟩ := run_append_own_at (P := Try.prog) x D 22 ty 3 i0 (.int .i64 0) 1 8 Try.underlying22 hi hz0 hz1 hz2 rfl (by omega) v k (numV k f) hv ⟨b, 0, none⟩ 1 1 [.int .i64 (f k : Int)] rfl hsrc h1c (by unfold maxLen; omega) (by omega) hD
  have main : ∀ (k' : Nat) (u : Value), (k' = k ∨ k' = k + 1) → OwnK D k' f u x → OwnK D k' f u x' := fun k' u hk' hu => ?main
  exact ⟨v', x', hrun, by unfold OwnK; rw [numV_succ]; exact h1, h2, h4, fun u hu => main _ u (.inr rfl) hu, fun u hu => main _ u (.inl rfl) hu⟩
  have hv0 := hv
  rcases hv.2 with ⟨rfl, h0⟩ | ⟨g, cap, cur, rfl, hg, hblk, hc, hcm, hs, ht⟩
  · exact hu.kept0 h2
  · by_cases hr : k + 1 ≤ cap
    · have hbl : Blk x g 3 cur := hblk
      have hrun2 := run_append_room_cells (P := Try.prog) x 22 ty 3 i0 Try.underlying22 hi g 0 k cap ⟨b, 0, none⟩ 1 1 [.int .i64 (f k : Int)] (by rw [hz1]; rfl) hsrc h1c hr
        (fun j hj => by rw [hz1, Nat.zero_add, Nat.mul_one, hbl.cell, Array.getElem?_eq_getElem (by simp at hj; omega)]; rfl) (fun j hj => by rw [hz1, Nat.zero_add, Nat.mul_one]; exact hbl.frozen _)
      rw [hrun] at hrun2
      injection hrun2 with e1 e2
      rw [hz1, Nat.zero_add, Nat.mul_one] at e2
      subst e2
      by_cases hug : u.ownBlock = some g
      · rcases hu.2 with ⟨e0, _⟩ | ⟨g2, cap2, cur2, rfl, hg2, hblk2, hc2, hcm2, hs2, ht2⟩
        · subst e0; cases hug
        · have e3 : g2 = g := by simpa [Value.ownBlock] using hug
          subst e3
          have e4 : cur2 = cur := by
            have := hblk2.symm.trans hblk
            simp only [Option.some.injEq, Obj.cells.injEq, and_true] at this
            exact this
          subst e4
          have hb3 := hbl.set_ k (.int .i64 (f k : Int))
          refine ⟨hu.1, .inr ⟨g2, cap2, _, rfl, hg2, hb3, hc2, hcm2, by simpa using hs2, ?_⟩⟩
          rw [← ht2]
          refine List.ext_getElem? fun j => ?_
          rw [List.getElem?_take, List.getElem?_take]
          by_cases hj : j < k' * 1
          · rw [if_pos hj, if_pos hj, Array.getElem?_toList, Array.getElem?_toList, Array.getElem?_setIfInBounds]
            by_cases hjk : k = j
            · subst hjk
              have hkk : k' = k + 1 := by omega
              subst hkk
              have hk2 : cur2[k]? = some (.int .i64 (f k : Int)) := by
                have e5 : cur2.toList[k]? = (numV (k + 1) f)[k]? := by rw [← ht2, List.getElem?_take]; simp
                rw [← Array.getElem?_toList, e5, numV_succ, List.getElem?_append_right (by rw [numV_len]; exact Nat.le_refl _), numV_len]
                simp
              rw [if_pos rfl, if_pos (Array.getElem?_eq_some_iff.1 hk2).1, hk2]
            · rw [if_neg hjk]
          · rw [if_neg hj, if_neg hj]
      · exact World.ownsRow.kept hu h2 (.inr hug)
    · obtain ⟨v2, x2, hrun2, _, hg2⟩ := run_append_arg_grows (P := Try.prog) x 22 ty 3 i0 (.int .i64 0) 1 8 Try.underlying22 hi hz0 hz1 hz2 rfl (by omega) ⟨g, 0, none⟩ k cap (numV k f) (by rw [numV_len]; omega) (fun j u hu => by
          have hj : j < k := by have := (List.getElem?_eq_some_iff.1 hu).1; rwa [numV_len] at this
          have hbl : Blk x g 3 cur := hblk
          have e0 : (⟨g, 0, none⟩ : Addr).add j = ⟨g, j, none⟩ := by have := addr_add g 0 j; rwa [Nat.zero_add] at this
          have e5 : cur.toList[j]? = (numV k f)[j]? := by rw [← ht, List.getElem?_take]; simp; omega
          rw [e0, hbl.cell, ← Array.getElem?_toList, e5, hu]) ⟨b, 0, none⟩ 1 1 [.int .i64 (f k : Int)] rfl hsrc (by omega) (by unfold maxLen; omega) (by omega)
      rw [hrun] at hrun2
      injection hrun2 with e1 e2
      subst e2
      exact hu.kept0 hg2

/-! ### what the region asks of its makers -/
def ApR (row : Option Nat) (D k : Nat) (f : Nat → Nat) (w w' : World) : Prop := w.grownBy w' row ∧ (∀ v, OwnK D (k + 1) f v w → OwnK D (k + 1) f v w') ∧ ∀ v, OwnK D k f v w → OwnK D k f v w'
section
variable {row : Option Nat} {D k : Nat} {f : Nat → Nat}
theorem grownBy_refl (w : World) : w.grownBy w row := ⟨rfl, rfl, rfl, Nat.le_refl _, fun _ _ _ => rfl⟩
theorem grownBy_trans {a b c : World} (h : a.grownBy b row) (h' : b.grownBy c row) : a.grownBy c row :=
  ⟨h'.os.trans h.os, h'.tape.trans h.tape, h'.output.trans h.output, Nat.le_trans h.size h'.size, fun j hj hr => (h'.block j (Nat.lt_of_lt_of_le hj h.size) hr).trans (h.block j hj hr)⟩
theorem grownBy_below {a b : World} (h : Below a.heap.size a b) : a.grownBy b row := ⟨h.os, h.tape, h.output, h.size, fun j hj _ => h.block j hj⟩
theorem ApR.refl (w : World) : ApR row D k f w w := ⟨grownBy_refl w, fun _ h => h, fun _ h => h⟩
theorem ApR.trans (a b c : World) (h : ApR row D k f a b) (h' : ApR row D k f b c) : ApR row D k f a c := ⟨grownBy_trans h.1 h'.1, fun v hv => h'.2.1 v (h.2.1 v hv), fun v hv => h'.2.2 v (h.2.2 v hv)⟩
theorem ApR.of_below {w w' : World} (hb : Below w.heap.size w w') : ApR row D k f w w' := ⟨grownBy_below hb, fun _ h => own_nextK h hb, fun _ h => own_nextK h hb⟩
theorem ApR.drew (w : World) : ApR row D k f w w.drew := ApR.of_below (Below.refl _ _).drew
end
def apMk (i : Nat) : Bool := i == 10 || i == 13 || i == 14
structure ApPhi (row : Option Nat) (D D0 k : Nat) (f : Nat → Nat) (c : Nat) (i : Nat) (v : Value) (w : World) : Prop where
  p10 : i = 10 → v = .int .i64 (c : Int)
  p13 : i = 13 → ∃ g, v = .slice (some ⟨g, 0, none⟩) 1 1 ∧ some g ≠ row ∧ g < w.heap.size ∧ w.cell? ⟨g, 0, none⟩ = some (.int .i64 (f k : Int))
  p14 : i = 14 → OwnK D (k + 1) f v w ∧ (v.ownBlock = row ∨ ∃ g, v.ownBlock = some g ∧ D0 ≤ g)
structure ApSh (c : Nat) (i : Nat) (v : Value) : Prop where
  p10 : i = 10 → v = .int .i64 (c : Int)
  p13 : i = 13 → ∃ g, v = .slice (some ⟨g, 0, none⟩) 1 1
  p14 : i = 14 → ∃ A l q, v = .slice A l q
section
variable {row : Option Nat} {D D0 k c : Nat} {f : Nat → Nat}
theorem ApPhi_stable (i : Nat) (v : Value) (w w' : World) (h : ApPhi row D D0 k f c i v w) (hr : ApR row D k f w w') : ApPhi row D D0 k f c i v w' :=
  ⟨h.p10, fun e => by
    obtain ⟨g, h1, h2, h3, h4⟩ := h.p13 e
    exact ⟨g, h1, h2, Nat.lt_of_lt_of_le h3 hr.1.size, (World.cell?_of_block (a := ⟨g, 0, none⟩) (hr.1.block g h3 h2)).trans h4⟩, fun e => ⟨hr.2.1 v (h.p14 e).1, (h.p14 e).2⟩⟩
theorem ApSh_of (i : Nat) (v : Value) (w : World) (h : ApPhi row D D0 k f c i v w) : ApSh c i v :=
  ⟨h.p10, fun e => by obtain ⟨g, h1, _⟩ := h.p13 e; exact ⟨g, h1⟩, fun e => by
    rcases (h.p14 e).1.2 with ⟨h1, _⟩ | ⟨g, cap, cur, h1, _⟩
    · exact ⟨none, 0, 0, h1⟩
    · exact ⟨_, _, _, h1⟩⟩
end
def ap0 (c i : Nat) : Value := if i = 10 then .int .i64 (c : Int) else if i = 13 then .slice (some ⟨0, 0, none⟩) 1 1 else .slice none 0 0
theorem ApSh_zero {c : Nat} (i : Nat) : ApSh c i (ap0 c i) := ⟨fun e => by subst e; rfl, fun e => by subst e; exact ⟨0, rfl⟩, fun e => by subst e; exact ⟨none, 0, 0, rfl⟩⟩
theorem makes_app {row : Option Nat} {D D0 k b : Nat} {f : Nat → Nat} {o : Oper} {a : Act} (s y : Operand) (hop : o.op = .call { callee := .builtin .append, args := #[s, y], argTypes := #[22, 22] }) (v : Value) (x : World)
    (hs : a.eval s = v) (hx : a.eval y = .slice (some ⟨b, 0, none⟩) 1 1) (hv : OwnK D k f v x) (hr : v.ownBlock = row) (hb : x.cell? ⟨b, 0, none⟩ = some (.int .i64 (f k : Int))) (hk : k ≤ 1000) (hD : D ≤ x.heap.size) (hD0 : D0 ≤ x.heap.size) :
    makesAtR Try.prog (ApR row D k f) (fun _ => True) o a x fun u x' => OwnK D (k + 1) f u x' ∧ (u.ownBlock = row ∨ ∃ g, u.ownBlock = some g ∧ D0 ≤ g) := by
  obtain ⟨v', x', hrun, h1, h2, h3, h4, h5⟩ := run_app o.type hv hb hk hD
  unfold makesAtR execOp
  simp only [hop, resolve, invoke, builtin, Sem.run_bind, Sem.run_pure, Result.andThen_ok, List.map_toArray, List.map_cons, List.map_nil, hs, hx, hrun, makesUponR]
  rw [hr] at h2 h3
  exact ⟨⟨h2, h4, h5⟩, trivial, h1, h3.imp id fun h => ⟨_, h, hD0⟩⟩

end Go.Proofs.Ytdhjcgbaaghnoaa


/- l5Quotient of the reading side: the ring of the classes. -/
namespace Go.Proofs.Ytdhjcgbaaghnoaa
open Go.RowKit Go.Shelf
set_option maxRecDepth 100000

theorem Grow.set2 {D : Nat} {w w3 : World} {bx gg cap m : Nat} {n o x : Int} {v2 v3 : Value} {k2 k3 : Nat} {X Y : List Int} (h : Grow D w bx n o v2 v3 k2 k3 X Y)
    (hown : w3.ownsRow D 3 1 (.slice (some ⟨gg, 0, none⟩) m cap) (k2 + 1) (X.map (.int .i64) ++ [.int .i64 x])) (hg : w.grownBy w3 v2.ownBlock)
    (hat : v2.ownBlock = some gg ∨ w.heap.size ≤ gg) :
    Grow D (w3.setCell ⟨bx, 2, none⟩ (.slice (some ⟨gg, 0, none⟩) m cap)) bx n o (.slice (some ⟨gg, 0, none⟩) m cap) v3 (k2 + 1) k3 (X ++ [x]) Y ∧ Below D w (w3.setCell ⟨bx, 2, none⟩ (.slice (some ⟨gg, 0, none⟩) m cap)) := by
  have hlt := h.box.lt
  have kk := h.o3.kept hg (by
    cases e3 : v3.ownBlock with
    | none => exact .inl rfl
    | some g => exact .inr fun e => h.n23 g e.symm e3)
  have kb : Blk w3 bx 27 #[.int .i64 n, .int .i64 o, v2, v3] := (hg.block bx hlt (Ne.symm h.n2)).trans h.box
  have nb : gg ≠ bx := by
    rcases hat with e | e
    · intro e2; exact h.n2 (by rw [e, e2])
    · omega
  have nb' : (Value.slice (some ⟨gg, 0, none⟩) m cap).ownBlock ≠ some bx := by simpa [Value.ownBlock] using nb
  refine ⟨⟨by simpa using kb.set_ 2 _, h.hD, ?_, ?_, nb', h.n3, fun g e2 e3 => ?_⟩, ?_⟩
  · rw [List.map_append]; exact ownsRow_setCell_other hown nb' _
  · exact ownsRow_setCell_other kk h.n3 _
  · have eg : gg = g := by simpa [Value.ownBlock] using e2
    rcases hat with e | e
    · exact h.n23 g (by rw [e, eg]) e3
    · have := (h.o3.lt g e3).2
      omega
  · exact (Below.grown (Below.refl _ _) hg (Nat.le_of_lt (Nat.lt_of_le_of_lt h.hD hlt)) (fun k hk => (h.o2.lt k hk).1)).setCell h.hD _
theorem Grow.set3 {D : Nat} {w w3 : World} {bx gg cap m : Nat} {n o x : Int} {v2 v3 : Value} {k2 k3 : Nat} {X Y : List Int} (h : Grow D w bx n o v2 v3 k2 k3 X Y)
    (hown : w3.ownsRow D 3 1 (.slice (some ⟨gg, 0, none⟩) m cap) (k3 + 1) (Y.map (.int .i64) ++ [.int .i64 x])) (hg : w.grownBy w3 v3.ownBlock)
    (hat : v3.ownBlock = some gg ∨ w.heap.size ≤ gg) :
    Grow D (w3.setCell ⟨bx, 3, none⟩ (.slice (some ⟨gg, 0, none⟩) m cap)) bx n o v2 (.slice (some ⟨gg, 0, none⟩) m cap) k2 (k3 + 1) X (Y ++ [x]) ∧ Below D w (w3.setCell ⟨bx, 3, none⟩ (.slice (some ⟨gg, 0, none⟩) m cap)) := by
  have hlt := h.box.lt
  have kk := h.o2.kept hg (by
    cases e3 : v2.ownBlock with
    | none => exact .inl rfl
    | some g => exact .inr fun e => h.n23 g e3 e.symm)
  have kb : Blk w3 bx 27 #[.int .i64 n, .int .i64 o, v2, v3] := (hg.block bx hlt (Ne.symm h.n3)).trans h.box
  have nb : gg ≠ bx := by
    rcases hat with e | e
    · intro e2; exact h.n3 (by rw [e, e2])
    · omega
  have nb' : (Value.slice (some ⟨gg, 0, none⟩) m cap).ownBlock ≠ some bx := by simpa [Value.ownBlock] using nb
  refine ⟨⟨by simpa using kb.set_ 3 _, h.hD, ?_, ?_, h.n2, nb', fun g e2 e3 => ?_⟩, ?_⟩
  · exact ownsRow_setCell_other kk h.n2 _
  · rw [List.map_append]; exact ownsRow_setCell_other hown nb' _
  · have eg : gg = g := by simpa [Value.ownBlock] using e3
    rcases hat with e | e
    · exact h.n23 g e2 (by rw [e, eg])
    · have := (h.o2.lt g e2).2
      omega
  · exact (Below.grown (Below.refl _ _) hg (Nat.le_of_lt (Nat.lt_of_le_of_lt h.hD hlt)) (fun k hk => (h.o3.lt k hk).1)).setCell h.hD _


/-- The least element of a class. -/
noncomputable def leaN (m : Nat) (S : Nat → Nat) (p : Nat → Bool) (i : Nat) : Nat := ((leas m S p m)[i]?).getD 0
noncomputable def qN (m : Nat) (S : Nat → Nat) (p : Nat → Bool) : Nat := (leas m S p m).length
/-- A table of the ring of classes. -/
noncomputable def quoF (m : Nat) (S : Nat → Nat) (p : Nat → Bool) (T : Nat → Nat) (q : Nat) : Nat := namK m S p m (T (leaN m S p (q / qN m S p) * m + leaN m S p (q % qN m S p)))
section
variable {m e : Nat} {S P : Nat → Nat} {p : Nat → Bool}
theorem lea_get {i : Nat} (h : i < qN m S p) : (leas m S p m)[i]? = some (leaN m S p i) := by unfold leaN; rw [List.getElem?_eq_getElem h]; rfl
theorem lea_lt {i : Nat} (h : i < qN m S p) : leaN m S p i < m := leas_lt (k := m) (List.mem_of_getElem? (lea_get h))
theorem cnt_le : qN m S p ≤ m := leas_len m
theorem RTab.cnt_pos (R : RTab m S P e) (hp : Idl m S P p) : 1 ≤ qN m S p := by
  have := R.nam_lt hp R.hm
  unfold qN; omega
theorem quo_at {T : Nat → Nat} {i j : Nat} (hj : j < qN m S p) : quoF m S p T (i * qN m S p + j) = namK m S p m (T (leaN m S p i * m + leaN m S p j)) := by
  unfold quoF; rw [(idx_two hj).1, (idx_two hj).2]
theorem cls_cnt : (clsL m S p m).length = qN m S p := by unfold clsL qN; rw [List.length_map]
end

/-- A class as it is read: its least element comes first. -/
theorem cls_at {m e i : Nat} {S P : Nat → Nat} {p : Nat → Bool} {w : World} {g : Nat} (R : RTab m S P e) (hp : Idl m S P p) (h : ∀ (i : Nat) (Z : List Int), (clsL m S p m)[i]? = some Z → ∃ (B : Option Addr) (c : Nat), w.cell? ⟨g, i, none⟩ = some (.slice B Z.length c) ∧ Z.length ≤ c ∧ Z.length ≤ 1048570 ∧ Ints w w.heap.size B Z.length Z) (hi : i < qN m S p) :
    ∃ b o l c : Nat, w.cell? ⟨g, i, none⟩ = some (.slice (some ⟨b, o, none⟩) l c) ∧ 1 ≤ l ∧ l ≤ c ∧ b < w.heap.size ∧ w.cell? ⟨b, o, none⟩ = some (.int .i64 (leaN m S p i : Int)) := by
  obtain ⟨t, ht⟩ := R.class_first hp (List.mem_of_getElem? (lea_get hi))
  obtain ⟨B, c, h1, h2, _, h4⟩ := h i _ (cls_get (lea_get hi))
  rw [ht] at h1 h2 h4
  obtain ⟨b, o, rfl, hb, hc⟩ := h4.2 (by simp)
  have := hc 0 (leaN m S p i : Int) (by simp)
  rw [Nat.add_zero] at this
  exact ⟨b, o, _, c, h1, by simp, h2, hb, this⟩

end Go.Proofs.Ytdhjcgbaaghnoaa


/- QuotientRing of the reading side. -/
namespace Go.Proofs.Ytdhjcgbaaghnoaa
open Go.RowKit Go.Shelf
set_option maxRecDepth 100000

/-- What three results read, the first of them in a box. -/
theorem results_cell_tmp2 {P : Program} {fn : Func} {p u s : Tmp} {ty : TypeId} (h : fn.results = #[.cell p ty, .tmp u, .tmp s]) (tmps : Array Value) (w : World) (g : Nat) (t : TypeId) (cs : Array Value) (d : TypeDesc) (b c : Value)
    (hp : tmps.getD p undef = .pointer (some ⟨g, 0, none⟩)) (hb : tmps.getD u undef = b) (hc : tmps.getD s undef = c) (hg : Blk w g t cs)
    (hu : P.underlying ty = some d) (hd : (match d with | .struct _ | .array _ _ => true | _ => false) = true) (hi : (P.info? ty).map (·.size) = some cs.size) :
    (results fn tmps).run P w = .ok (.tuple #[.agg cs, b, c]) w := by
  have e : (results fn tmps).run P w = ((asAddr (tmps.getD p undef)).run P w).andThen fun a w₁ => ((loadVar ty a).run P w₁).andThen fun v w₂ => .ok (.tuple #[v, tmps.getD u undef, tmps.getD s undef]) w₂ := by
    simp only [results, h]
    simp [Sem.run_bind, Result.andThen]
  rw [e, hp, hb, hc]
  simp [asAddr, run_loadVar_row w g t ty cs (0, 0) d hg hu hd hi]

end Go.Proofs.Ytdhjcgbaaghnoaa


/- PushIdeal of the reading side. -/
namespace Go.Proofs.Ytdhjcgbaaghnoaa
open Go.RowKit Go.Shelf
set_option maxRecDepth 100000

/-- The classes of the elements of an ideal. -/
noncomputable def imgB (m : Nat) (S : Nat → Nat) (p q : Nat → Bool) : Nat → Bool := memB ((finN (selTo m q m)).map (namK m S p m))
noncomputable def pshL (n o : Int) (X Y L K : List Int) : List Int := if twoI n o X Y L K = true then lstP (qN n.toNat (tabOf X) (setL L)) (imgB n.toNat (tabOf X) (setL L) (setL K)) else []
theorem psh_yes {n o : Int} {X Y L K : List Int} (h : twoI n o X Y L K = true) : pshL n o X Y L K = lstP (qN n.toNat (tabOf X) (setL L)) (imgB n.toNat (tabOf X) (setL L) (setL K)) := if_pos h
theorem psh_no {n o : Int} {X Y L K : List Int} (h : twoI n o X Y L K = false) : pshL n o X Y L K = [] := if_neg (by rw [h]; simp)
theorem RTab.img_lt {m e : Nat} {S P : Nat → Nat} {p q : Nat → Bool} (R : RTab m S P e) (hp : Idl m S P p) : ∀ i, imgB m S p q i = true → i < qN m S p := fun i h => by
  have := memB_iff.1 h
  rw [List.mem_map] at this
  obtain ⟨x, hx, rfl⟩ := this
  exact R.nam_lt hp (lst_in.1 hx).1

theorem memB_none : memB ([] : List Nat) = fun _ => false := funext fun i => by simp [memB]
theorem memB_put {l : List Nat} {a : Nat} : (fun i => memB l i || decide (i = a)) = memB (l ++ [a]) := funext fun i => by simp [memB]

end Go.Proofs.Ytdhjcgbaaghnoaa
