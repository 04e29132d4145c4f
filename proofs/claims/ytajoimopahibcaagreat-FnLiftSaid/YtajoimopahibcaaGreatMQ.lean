/- Texts of this seat in one: PA PB PC PD PE PF PG PP. -/
import Derived.Test.YtajoimopahibcaaGreatMN
import Derived.Test.YtajoimopahibcaaGreatMO
import Derived.Maps.AppendAt
import Derived.Test.YtajoimopahibcaaGreatMC

/- Plain facts: the classes of elements by an ideal. No program in sight. -/
namespace Go.Proofs.YtajoimopahibcaaGreat
open Go.RowKit

/-- The class of an element by an ideal. -/
noncomputable def cosB (m : Nat) (S : Nat → Nat) (p : Nat → Bool) (a x : Nat) : Bool := propB (∃ b, p b = true ∧ S (a * m + b) = x)
/-- The least elements of the classes of those below k. -/
noncomputable def leas (m : Nat) (S : Nat → Nat) (p : Nat → Bool) : Nat → List Nat
  | 0 => []
  | k + 1 => if (leas m S p k).any (fun a => cosB m S p a k) = true then leas m S p k else leas m S p k ++ [k]
/-- The index of the class of an element, among those of the elements below k. -/
noncomputable def namK (m : Nat) (S : Nat → Nat) (p : Nat → Bool) (k x : Nat) : Nat := (leas m S p k).findIdx (fun a => cosB m S p a x)

section
variable {m e : Nat} {S P : Nat → Nat} {p : Nat → Bool}
theorem cos_iff {a x : Nat} : cosB m S p a x = true ↔ ∃ b, p b = true ∧ S (a * m + b) = x := propB_iff
theorem leas_no {k : Nat} (h : (leas m S p k).any (fun a => cosB m S p a k) = true) : leas m S p (k + 1) = leas m S p k := if_pos h
theorem leas_yes {k : Nat} (h : (leas m S p k).any (fun a => cosB m S p a k) = false) : leas m S p (k + 1) = leas m S p k ++ [k] := if_neg (by rw [h]; simp)
theorem leas_lt : ∀ {k a : Nat}, a ∈ leas m S p k → a < k
  | 0, a, h => by cases h
  | k + 1, a, h => by
    cases hc : (leas m S p k).any (fun a => cosB m S p a k)
    · rw [leas_yes hc, List.mem_append, List.mem_singleton] at h
      rcases h with h | rfl
      · have := leas_lt h; omega
      · omega
    · rw [leas_no hc] at h
      have := leas_lt h; omega
theorem leas_nodup : ∀ k, (leas m S p k).Nodup
  | 0 => List.nodup_nil
  | k + 1 => by
    cases hc : (leas m S p k).any (fun a => cosB m S p a k)
    · rw [leas_yes hc, List.nodup_append]
      refine ⟨leas_nodup k, by simp, fun a ha b hb => ?_⟩
      rw [List.mem_singleton] at hb
      have := leas_lt ha
      omega
    · rw [leas_no hc]; exact leas_nodup k
theorem leas_len : ∀ k, (leas m S p k).length ≤ k
  | 0 => Nat.le_refl _
  | k + 1 => by
    have := leas_len k
    cases hc : (leas m S p k).any (fun a => cosB m S p a k)
    · rw [leas_yes hc]; simp; omega
    · rw [leas_no hc]; omega
theorem RTab.cos_lt (R : RTab m S P e) (hp : Idl m S P p) {a x : Nat} (ha : a < m) (h : cosB m S p a x = true) : x < m := by
  obtain ⟨b, hb, rfl⟩ := cos_iff.1 h
  exact R.sc ha (hp.lt b hb)
theorem RTab.cos_refl (R : RTab m S P e) (hp : Idl m S P p) {a : Nat} (ha : a < m) : cosB m S p a a = true := cos_iff.2 ⟨0, hp.z, R.A00 ha⟩
theorem RTab.idl_neg (R : RTab m S P e) (hp : Idl m S P p) {b : Nat} (hb : p b = true) : ∃ c, p c = true ∧ S (b * m + c) = 0 := by
  obtain ⟨n, hn, _, h⟩ := R.negEx R.he
  refine ⟨P (b * m + n), hp.t b n hb hn, ?_⟩
  have := R.mul_neg (hp.lt b hb) R.he hn h
  rwa [R.M11 (hp.lt b hb)] at this
theorem RTab.cos_symm (R : RTab m S P e) (hp : Idl m S P p) {a x : Nat} (ha : a < m) (h : cosB m S p a x = true) : cosB m S p x a = true := by
  obtain ⟨b, hb, rfl⟩ := cos_iff.1 h
  obtain ⟨c, hc, h0⟩ := R.idl_neg hp hb
  exact cos_iff.2 ⟨c, hc, by rw [R.Aas ha (hp.lt b hb) (hp.lt c hc), h0, R.A00 ha]⟩
theorem RTab.cos_trans (R : RTab m S P e) (hp : Idl m S P p) {a x y : Nat} (ha : a < m) (h : cosB m S p a x = true) (h' : cosB m S p x y = true) : cosB m S p a y = true := by
  obtain ⟨b, hb, rfl⟩ := cos_iff.1 h
  obtain ⟨c, hc, rfl⟩ := cos_iff.1 h'
  exact cos_iff.2 ⟨S (b * m + c), hp.s b c hb hc, (R.Aas ha (hp.lt b hb) (hp.lt c hc)).symm⟩
theorem RTab.leas_cover (R : RTab m S P e) (hp : Idl m S P p) : ∀ {k x : Nat}, k ≤ m → x < k → ∃ a ∈ leas m S p k, cosB m S p a x = true
  | 0, x, _, h => by omega
  | k + 1, x, hk, h => by
    cases hc : (leas m S p k).any (fun a => cosB m S p a k)
    · rw [leas_yes hc]
      by_cases hx : x = k
      · subst hx; exact ⟨x, by simp, R.cos_refl hp (by omega)⟩
      · obtain ⟨a, h1, h2⟩ := R.leas_cover hp (k := k) (x := x) (by omega) (by omega)
        exact ⟨a, List.mem_append_left _ h1, h2⟩
    · rw [leas_no hc]
      by_cases hx : x = k
      · subst hx
        obtain ⟨a, h1, h2⟩ := List.any_eq_true.1 hc
        exact ⟨a, h1, h2⟩
      · exact R.leas_cover hp (by omega) (by omega)
/-- An element behind a class is in it only if the class has its own class's elements. -/
theorem RTab.leas_apart (R : RTab m S P e) (hp : Idl m S P p) : ∀ {k a a' x : Nat}, k ≤ m → a ∈ leas m S p k → a' ∈ leas m S p k → cosB m S p a x = true → cosB m S p a' x = true → a = a'
  | 0, a, a', x, _, h, _, _, _ => by cases h
  | k + 1, a, a', x, hk, h, h', hx, hx' => by
    cases hc : (leas m S p k).any (fun a => cosB m S p a k)
    · rw [leas_yes hc, List.mem_append, List.mem_singleton] at h h'
      have no : ∀ {b : Nat}, b ∈ leas m S p k → cosB m S p b x = true → cosB m S p k x = true → False := fun {b} hb h1 h2 => by
        have hbm : b < m := Nat.lt_of_lt_of_le (leas_lt hb) (by omega)
        have := R.cos_trans hp hbm h1 (R.cos_symm hp (by omega) h2)
        rw [List.any_eq_true.2 ⟨b, hb, this⟩] at hc
        cases hc
      rcases h with h | rfl <;> rcases h' with h' | rfl
      · exact R.leas_apart hp (by omega) h h' hx hx'
      · exact (no h hx hx').elim
      · exact (no h' hx' hx).elim
      · rfl
    · rw [leas_no hc] at h h'
      exact R.leas_apart hp (by omega) h h' hx hx'
theorem RTab.leas_fresh (R : RTab m S P e) : ∀ {k a : Nat}, a ∈ leas m S p k → (leas m S p a).any (fun b => cosB m S p b a) = false
  | 0, a, h => by cases h
  | k + 1, a, h => by
    cases hc : (leas m S p k).any (fun a => cosB m S p a k)
    · rw [leas_yes hc, List.mem_append, List.mem_singleton] at h
      rcases h with h | rfl
      · exact R.leas_fresh h
      · exact hc
    · rw [leas_no hc] at h
      exact R.leas_fresh h
theorem RTab.leas_least (R : RTab m S P e) (hp : Idl m S P p) {k a x : Nat} (hk : k ≤ m) (h : a ∈ leas m S p k) (hx : cosB m S p a x = true) : a ≤ x := by
  rcases Nat.lt_or_ge x a with hlt | hge
  · have ham : a < m := Nat.lt_of_lt_of_le (leas_lt h) hk
    obtain ⟨b, hb, h2⟩ := R.leas_cover hp (k := a) (x := x) (by omega) hlt
    have := R.cos_trans hp (Nat.lt_of_lt_of_le (leas_lt hb) (by omega)) h2 (R.cos_symm hp ham hx)
    have hf := R.leas_fresh h
    rw [List.any_eq_true.2 ⟨b, hb, this⟩] at hf
    cases hf
  · exact hge
theorem sel_none {k : Nat} (h : ∀ x, x < k → p x = false) : selTo m p k = [] := by
  induction k with
  | zero => rfl
  | succ k ih => rw [selTo_no (h k (by omega)), ih fun x hx => h x (by omega)]
/-- The least element of a set comes first. -/
theorem lst_first {a : Nat} (ha : a < m) (h : p a = true) (hl : ∀ x, p x = true → a ≤ x) : ∃ t, lstP m p = (a : Int) :: t := by
  have h0 : selTo m p a = [] := sel_none fun x hx => by
    cases hp : p x
    · rfl
    · have := hl x hp; omega
  have h1 : selTo m p (a + 1) = [⟨a, ha⟩] := by rw [selTo_yes ha h, h0]; rfl
  obtain ⟨t, ht⟩ := selTo_le (m := m) (p := p) (show a + 1 ≤ m from ha)
  exact ⟨finI t, by unfold lstP; rw [← ht, h1]; simp [finI]⟩
theorem RTab.class_first (R : RTab m S P e) (hp : Idl m S P p) {a : Nat} (h : a ∈ leas m S p m) : ∃ t, lstP m (cosB m S p a) = (a : Int) :: t :=
  lst_first (leas_lt h) (R.cos_refl hp (leas_lt h)) fun _ hx => R.leas_least hp (Nat.le_refl _) h hx

/-! ### names -/
theorem findIdx_app {l : List Nat} {f : Nat → Bool} {t : List Nat} (h : l.any f = true) : (l ++ t).findIdx f = l.findIdx f := by
  rw [List.findIdx_append]
  rw [if_pos]
  rw [List.findIdx_lt_length]
  obtain ⟨x, h1, h2⟩ := List.any_eq_true.1 h
  exact ⟨x, h1, h2⟩
theorem findIdx_new {l : List Nat} {f : Nat → Bool} {a : Nat} (h : l.any f = false) (ha : f a = true) : (l ++ [a]).findIdx f = l.length := by
  rw [List.findIdx_append]
  have h1 : l.findIdx f = l.length := by
    rw [List.findIdx_eq_length]
    intro x hx
    rw [← Bool.not_eq_true]
    intro hf
    rw [List.any_eq_true.2 ⟨x, hx, hf⟩] at h
    cases h
  rw [if_neg (by omega)]
  simp [List.findIdx_cons, ha]
theorem nam_get {k x : Nat} (h : (leas m S p k).any (fun a => cosB m S p a x) = true) : ∃ h : namK m S p k x < (leas m S p k).length, cosB m S p ((leas m S p k)[namK m S p k x]) x = true := by
  have hl : namK m S p k x < (leas m S p k).length := by
    unfold namK
    rw [List.findIdx_lt_length]
    obtain ⟨y, h1, h2⟩ := List.any_eq_true.1 h
    exact ⟨y, h1, h2⟩
  exact ⟨hl, List.findIdx_getElem (w := hl)⟩
theorem RTab.nam_uniq (R : RTab m S P e) (hp : Idl m S P p) {k i x : Nat} (hk : k ≤ m) (hi : i < (leas m S p k).length) (h : cosB m S p ((leas m S p k)[i]) x = true) : namK m S p k x = i := by
  obtain ⟨hl, h2⟩ := nam_get (k := k) (x := x) (List.any_eq_true.2 ⟨_, List.getElem_mem hi, h⟩)
  have e1 := R.leas_apart hp hk (List.getElem_mem hl) (List.getElem_mem hi) h2 h
  exact (List.getElem_inj (leas_nodup k)).1 e1
end
end Go.Proofs.YtajoimopahibcaaGreat



/- A slice of slices of ints that the call itself makes, one element after another. -/
namespace Go.Proofs.YtajoimopahibcaaGreat
open Go.RowKit Go.Shelf
set_option maxRecDepth 100000

theorem sl_info : (Tryz.prog.info? 23).map (fun i => (i.zero, i.size, i.bytes)) = some (some (.slice none 0 0), 1, 24) := by kernel_rfl
/-- These values are slices of the call's own, with these contents, and none lies in the row that holds them. -/
def LLs (D : Nat) (w : World) (row : Option Nat) (xs : List Value) (ZZ : List (List Int)) : Prop :=
  xs.length = ZZ.length ∧ ∀ (i : Nat) (Z : List Int), ZZ[i]? = some Z → ∃ (B : Option Addr) (l c : Nat), xs[i]? = some (Value.slice B l c) ∧ Own w D B l Z ∧ l ≤ c ∧ l ≤ 1048570 ∧ ∀ (g off : Nat), 0 < l → B = some ⟨g, off, none⟩ → row ≠ some g
/-- A slice of slices of ints of the call's own. -/
def LLo (D : Nat) (w : World) (v : Value) (ZZ : List (List Int)) : Prop := ∃ xs, w.ownsRow D 23 1 v ZZ.length xs ∧ LLs D w v.ownBlock xs ZZ

theorem Own.grown_ {D n : Nat} {A : Option Addr} {xs : List Int} {w w' : World} {row : Option Nat} (h : Own w D A n xs) (hg : w.grownBy w' row) (hap : ∀ g off, 0 < n → A = some ⟨g, off, none⟩ → row ≠ some g) : Own w' D A n xs :=
  ⟨h.1, fun hn => by
    obtain ⟨g, off, e, hD, hlt, hc⟩ := h.2 hn
    have hb : w'.heap[g]? = w.heap[g]? := hg.block g hlt (fun e' => hap g off hn e e'.symm)
    refine ⟨g, off, e, hD, Nat.lt_of_lt_of_le hlt hg.size, fun k hk => ?_⟩
    rw [World.cell?_of_block (a := ⟨g, off + k, none⟩) hb, World.frozen?_of_block (a := ⟨g, off + k, none⟩) hb]
    exact hc k hk⟩
/-- A store into a block that holds no ints. -/
theorem Own.setc {D n b i : Nat} {A : Option Addr} {xs : List Int} {w : World} {t : TypeId} {cs : Array Value} {u : Value} (h : Own w D A n xs) (hb : Blk w b t cs) (hi : ∀ (k : Nat) (x : Int), cs[k]? ≠ some (.int .i64 x)) : Own (w.setCell ⟨b, i, none⟩ u) D A n xs :=
  ⟨h.1, fun hn => by
    obtain ⟨g, off, e, hD, hlt, hc⟩ := h.2 hn
    have hne : g ≠ b := by
      rintro rfl
      have := (hc 0 hn).1
      rw [hb.cell] at this
      exact hi _ _ this
    have he : (w.setCell ⟨b, i, none⟩ u).heap[g]? = w.heap[g]? := Below.heap_setCell w ⟨b, i, none⟩ u g hne
    refine ⟨g, off, e, hD, Nat.lt_of_lt_of_le hlt ((Below.refl 0 w).setCell (p := ⟨b, i, none⟩) (Nat.zero_le _) u).size, fun k hk => ?_⟩
    rw [World.cell?_of_block (a := ⟨g, off + k, none⟩) he, World.frozen?_of_block (a := ⟨g, off + k, none⟩) he]
    exact hc k hk⟩
theorem LLs.next {D : Nat} {w w' : World} {row : Option Nat} {xs : List Value} {ZZ : List (List Int)} (h : LLs D w row xs ZZ) (hb : Below w.heap.size w w') : LLs D w' row xs ZZ :=
  ⟨h.1, fun i Z hZ => by obtain ⟨B, l, c, h1, h2, h3⟩ := h.2 i Z hZ; exact ⟨B, l, c, h1, h2.next hb, h3⟩⟩
theorem LLo.next {D : Nat} {w w' : World} {v : Value} {ZZ : List (List Int)} (h : LLo D w v ZZ) (hb : Below w.heap.size w w') : LLo D w' v ZZ := by
  obtain ⟨xs, h1, h2⟩ := h
  exact ⟨xs, own_nextK h1 hb, h2.next hb⟩
theorem LLo.setc {D b i : Nat} {w : World} {v u : Value} {ZZ : List (List Int)} {t : TypeId} {cs : Array Value} (h : LLo D w v ZZ) (hb : Blk w b t cs) (ht : 23 ≠ t) (hi : ∀ (k : Nat) (x : Int), cs[k]? ≠ some (.int .i64 x)) : LLo D (w.setCell ⟨b, i, none⟩ u) v ZZ := by
  obtain ⟨xs, h1, h2⟩ := h
  refine ⟨xs, ?_, h2.1, fun j Z hZ => ?_⟩
  · have hne := own_blk_ne h1 hb ht
    exact h1.kept (row := some b) (by
      have h0 := (Below.refl 0 w).setCell (p := ⟨b, i, none⟩) (Nat.zero_le _) u
      exact ⟨h0.os, h0.tape, h0.output, h0.size, fun k _ hk => Below.heap_setCell w ⟨b, i, none⟩ u k (fun e => hk (by rw [e]))⟩) (.inr (fun e => hne e.symm))
  · obtain ⟨B, l, c, e1, e2, e3⟩ := h2.2 j Z hZ
    exact ⟨B, l, c, e1, e2.setc hb hi, e3⟩
theorem LLo.empty {D : Nat} {w : World} {v : Value} (h : w.ownsRow D 23 1 v 0 []) : LLo D w v [] := ⟨[], h, rfl, fun i Z hZ => by simp at hZ⟩
/-- One more. -/
theorem LLo.more {D l c : Nat} {w w' : World} {v v' : Value} {xs : List Value} {ZZ : List (List Int)} {Z : List Int} {B : Option Addr} {o : Obj} (_hv : w.ownsRow D 23 1 v ZZ.length xs) (h : LLs D w v.ownBlock xs ZZ) (hB : Own w D B l Z) (hl : l ≤ c) (hl' : l ≤ 1048570)
    (hap : ∀ g off, 0 < l → B = some ⟨g, off, none⟩ → v.ownBlock ≠ some g) (hw' : w'.ownsRow D 23 1 v' (ZZ.length + 1) (xs ++ [.slice B l c])) (hg : (w.alloc o).grownBy w' v.ownBlock) (hloc : v'.ownBlock = v.ownBlock ∨ v'.ownBlock = some (w.alloc o).heap.size) : LLo D w' v' (ZZ ++ [Z]) := by
  have hg0 : w.grownBy w' v.ownBlock := ⟨hg.os, hg.tape, hg.output, Nat.le_trans (by simp) hg.size, fun k hk hr => (hg.block k (by simp; omega) hr).trans (Below.heap_alloc w o k hk)⟩
  have new : ∀ {B : Option Addr} {n : Nat} {Z : List Int}, Own w D B n Z → (∀ g off, 0 < n → B = some ⟨g, off, none⟩ → v.ownBlock ≠ some g) → ∀ g off, 0 < n → B = some ⟨g, off, none⟩ → v'.ownBlock ≠ some g := fun {B n Z} hO hA g off hn e e' => by
    rcases hloc with h1 | h1
    · exact hA g off hn e (h1 ▸ e')
    · obtain ⟨g2, off2, e2, _, hlt, _⟩ := hO.2 hn
      rw [e] at e2
      simp only [Option.some.injEq, Addr.mk.injEq, and_true] at e2
      rw [h1] at e'
      simp at e'
      omega
  refine ⟨xs ++ [.slice B l c], by simpa using hw', by simp [h.1], fun i Y hY => ?_⟩
  rcases Nat.lt_or_ge i ZZ.length with hi | hi
  · rw [List.getElem?_append_left hi] at hY
    obtain ⟨B1, l1, c1, e1, e2, e3, e4, e5⟩ := h.2 i Y hY
    exact ⟨B1, l1, c1, by rw [List.getElem?_append_left (by rw [h.1]; exact hi)]; exact e1, e2.grown_ hg0 e5, e3, e4, new e2 e5⟩
  · rw [List.getElem?_append_right hi] at hY
    have e0 : i - ZZ.length = 0 := by
      have := (List.getElem?_eq_some_iff.1 hY).1
      simp at this
      omega
    rw [e0] at hY
    simp at hY
    subst hY
    refine ⟨B, l, c, ?_, hB.grown_ hg0 hap, hl, hl', new hB hap⟩
    rw [List.getElem?_append_right (by rw [h.1]; exact hi), h.1, e0]
    rfl

/-- A slice of slices of ints that can be read. -/
def LLi (w : World) (v : Value) (ZZ : List (List Int)) : Prop := ∃ g cap, v = .slice (some ⟨g, 0, none⟩) ZZ.length cap ∧ ZZ.length ≤ cap ∧ g < w.heap.size ∧ ∀ (i : Nat) (Z : List Int), ZZ[i]? = some Z → ∃ (B : Option Addr) (c : Nat), w.cell? ⟨g, i, none⟩ = some (.slice B Z.length c) ∧ Z.length ≤ c ∧ Z.length ≤ 1048570 ∧ Ints w w.heap.size B Z.length Z
theorem LLi.next {w w' : World} {v : Value} {ZZ : List (List Int)} (h : LLi w v ZZ) (hb : Below w.heap.size w w') : LLi w' v ZZ := by
  obtain ⟨g, cap, e, h1, h2, h3⟩ := h
  refine ⟨g, cap, e, h1, Nat.lt_of_lt_of_le h2 hb.size, fun i Z hZ => ?_⟩
  obtain ⟨B, c, e1, e2, e3, e4⟩ := h3 i Z hZ
  exact ⟨B, c, (hb.cell (p := ⟨g, i, none⟩) h2).trans e1, e2, e3, e4.next hb⟩
theorem LLo.read {D : Nat} {w : World} {v : Value} {ZZ : List (List Int)} (h : LLo D w v ZZ) (hn : 1 ≤ ZZ.length) : LLi w v ZZ := by
  obtain ⟨xs, h1, h2⟩ := h
  rcases h1.2 with ⟨_, h0⟩ | ⟨g, cap, cur, rfl, hg, hb, hc, _, hs, ht⟩
  · omega
  · have hb' : Blk w g 23 cur := hb
    refine ⟨g, cap, rfl, hc, hb'.lt, fun i Z hZ => ?_⟩
    obtain ⟨B, l, c, e1, e2, e3, e4, _⟩ := h2.2 i Z hZ
    have hl := e2.1
    have hi : i < ZZ.length := (List.getElem?_eq_some_iff.1 hZ).1
    refine ⟨B, c, ?_, by rw [hl]; exact e3, by rw [hl]; exact e4, by rw [hl]; exact e2.ints⟩
    rw [hb'.cell i, hl]
    have e5 : cur.toList[i]? = xs[i]? := by rw [← ht, List.getElem?_take]; simp; omega
    rw [← Array.getElem?_toList, e5, e1]

end Go.Proofs.YtajoimopahibcaaGreat



/- l5Classes of the reading side. -/
namespace Go.Proofs.YtajoimopahibcaaGreat
open Go.RowKit Go.Shelf
set_option maxRecDepth 100000

theorem setP_noInt {p : Nat → Bool} : ∀ (k : Nat) (x : Int), (setP p)[k]? ≠ some (.int .i64 x) := fun k x h => by
  unfold setP at h
  rw [Array.getElem?_map] at h
  cases hr : (Array.range 16)[k]? with
  | none => rw [hr] at h; cases h
  | some y => rw [hr] at h; cases h
/-- The elements whose class has come so far. -/
noncomputable def donB (m : Nat) (S : Nat → Nat) (p : Nat → Bool) (k x : Nat) : Bool := (leas m S p k).any (fun a => cosB m S p a x)
noncomputable def clsL (m : Nat) (S : Nat → Nat) (p : Nat → Bool) (k : Nat) : List (List Int) := (leas m S p k).map fun a => lstP m (cosB m S p a)
section
variable {m k : Nat} {S : Nat → Nat} {p : Nat → Bool}
theorem don_zero : donB m S p 0 = fun _ => false := funext fun _ => rfl
theorem don_no (h : donB m S p k k = true) : donB m S p (k + 1) = donB m S p k := funext fun x => by unfold donB; rw [leas_no h]
theorem don_yes (h : donB m S p k k = false) : donB m S p (k + 1) = fun x => donB m S p k x || cosB m S p k x := funext fun x => by unfold donB; rw [leas_yes h]; simp
theorem cls_no (h : donB m S p k k = true) : clsL m S p (k + 1) = clsL m S p k := by unfold clsL; rw [leas_no h]
theorem cls_yes (h : donB m S p k k = false) : clsL m S p (k + 1) = clsL m S p k ++ [lstP m (cosB m S p k)] := by unfold clsL; rw [leas_yes h]; simp
theorem cls_len : (clsL m S p k).length ≤ k := by unfold clsL; rw [List.length_map]; exact leas_len k
theorem acc_cos (hp : ∀ i, p i = true → i < m) : accB S (fun _ => false) (k * m) (finN (selTo m p m)) = cosB m S p k := bool_ext fun x => by
  unfold accB
  rw [Bool.false_or, decide_eq_true_iff, List.mem_map, cos_iff]
  constructor
  · rintro ⟨b, hb, rfl⟩; exact ⟨b, (lst_in.1 hb).2, rfl⟩
  · rintro ⟨b, hb, rfl⟩; exact ⟨b, lst_in.2 ⟨hp b hb, hb⟩, rfl⟩
theorem acc_don (hp : ∀ i, p i = true → i < m) : accB S (donB m S p k) (k * m) (finN (selTo m p m)) = fun x => donB m S p k x || cosB m S p k x := by
  rw [← acc_cos hp]
  funext x
  simp [accB]
end

set_option maxHeartbeats 8000000 in
theorem l5Classes_any (C : Option Addr) (len cap : Nat) (p : Nat → Bool) (m e b1 o1 la ca b2 o2 lb cb : Nat) (S P : Nat → Nat) (w : World) (hr : RingAt w m e b1 o1 la ca b2 o2 lb cb S P) (R : RTab m S P e) (hp : Idl m S P p) (hL : Ints w w.heap.size C len (lstP m p)) (hlen : len ≤ 9223372036854775807) :
    Calls Tryz.prog 109 #[.agg #[.int .i64 m, .int .i64 e, .slice (some ⟨b1, o1, none⟩) la ca, .slice (some ⟨b2, o2, none⟩) lb cb], .slice C len cap] w fun e' w' => ∃ v, e' = .returned v ∧ LLo w.heap.size w' v (clsL m S p m) ∧ Below w.heap.size w w' := by
  obtain ⟨i0, hi, hz0, hz1, hz2⟩ := info_parts sl_info
  obtain ⟨W, hW⟩ : ∃ W, ((w.alloc (.cells #[.int .i64 m, .int .i64 e, .slice (some ⟨b1, o1, none⟩) la ca, .slice (some ⟨b2, o2, none⟩) lb cb] 25)).alloc (.cells (setP fun _ => false) 59)).alloc (.cells #[] 23) = W := ⟨_, rfl⟩
  have k0 : Blk W w.heap.size 25 #[.int .i64 m, .int .i64 e, .slice (some ⟨b1, o1, none⟩) la ca, .slice (some ⟨b2, o2, none⟩) lb cb] := by
    subst hW; exact ((Blk.new w _ _).alloc _).alloc _
  have k1 : Blk W (w.heap.size + 1) 59 (setP fun _ => false) := by
    subst hW
    have := (Blk.new (w.alloc (.cells #[.int .i64 m, .int .i64 e, .slice (some ⟨b1, o1, none⟩) la ca, .slice (some ⟨b2, o2, none⟩) lb cb] 25)) 59 (setP fun _ => false)).alloc (.cells #[] 23)
    rw [World.size_alloc] at this
    exact this
  have b0 : Below w.heap.size w W := by
    subst hW; exact (((Below.refl _ _).alloc (Nat.le_refl _) _).alloc (by simp) _).alloc (by simp; omega) _
  have o0 : W.ownsRow w.heap.size 23 1 (.slice (some ⟨w.heap.size + 2, 0, none⟩) 0 0) 0 [] := by
    subst hW
    have := own_lit_K (w := (w.alloc (.cells #[.int .i64 m, .int .i64 e, .slice (some ⟨b1, o1, none⟩) la ca, .slice (some ⟨b2, o2, none⟩) lb cb] 25)).alloc (.cells (setP fun _ => false) 59)) (base := w.heap.size) (e := 23) [] (by simp; omega) (by unfold maxLen; simp)
    simpa using this
  obtain ⟨c0, c1, c2, c3⟩ := blk4 k0
  rw [setP_nil] at hW
  have HL1 := Lib.hid hL
  have HLN := Lib.hid (show (selTo m p m).length = len by rw [← hL.1, lst_len])
  have HR0 := Lib.hid hr
  have HPI := Lib.hid hp
  have hpl := hp.lt
  have hm' := hr.hm'
  have B0 := Lib.hid b0
  have HW := Lib.hid hW
  have K0 := Lib.hid k0
  have S0 := Lib.hid k1
  have O0 := Lib.hid o0
  have hs0 := k1.lt
  have len16 : len ≤ 16 := by rw [← HLN.out]; exact Nat.le_trans (selTo_len m) hm'
  clear hL hr hp b0 hW k0 k1 o0
  go_enter Tryz.func109, Tryz.ntmps109
  go_wp2_with (fail)
  rw [HW.out]
  clear c0 c1 c2 c3
  go_loopg [6, 15] m (fun g vo vi wr => ∃ k : Nat, k ≤ m ∧ m ≤ k + g ∧ vi = .int .i64 k ∧ LLo w.heap.size wr vo (clsL m S p k) ∧ Blk wr (w.heap.size + 1) 59 (setP (donB m S p k)) ∧ Below w.heap.size w wr ∧ Blk wr w.heap.size 25 #[.int .i64 m, .int .i64 e, .slice (some ⟨b1, o1, none⟩) la ca, .slice (some ⟨b2, o2, none⟩) lb cb])
  case atStart => exact ⟨0, Nat.zero_le _, by omega, rfl, LLo.empty O0.out, by rw [don_zero]; exact S0.out, B0.out, K0.out⟩
  case round =>
    obtain ⟨k, hk, hg, rfl, ho, hs, hb, hbk⟩ := hrel
    have hsz := hb.size
    have BW := Lib.hid hb
    have KW := Lib.hid hbk
    have SW := Lib.hid hs
    have OW := Lib.hid ho
    obtain ⟨c0, c1, c2, c3⟩ := blk4 hbk
    have l1 := hs.lt
    clear ho hs hb hbk
    by_cases hlt : k < m
    · obtain ⟨vo, hvo⟩ : ∃ vo, u6 = vo := ⟨_, rfl⟩
      subst hvo
      obtain ⟨Bs, hBs⟩ : ∃ Bs, wr.heap.size = Bs := ⟨_, rfl⟩
      obtain ⟨W1, hW1⟩ : ∃ W1, wr.alloc (.cells (setP fun _ => false) 59) = W1 := ⟨_, rfl⟩
      have b1 : Below wr.heap.size wr W1 := by subst hW1; exact (Below.refl _ _).alloc (Nat.le_refl _) _
      have g1 : Blk W1 Bs 59 (setP fun _ => false) := by subst hW1 hBs; exact Blk.new wr _ _
      rw [setP_nil] at hW1
      have HW1 := Lib.hid hW1
      have HBS := Lib.hid hBs
      have hck := (((SW.out.next b1).cell k).trans (setP_get (by omega)))
      have B1 := Lib.hid (below_step BW.out b1)
      have K1 := Lib.hid (KW.out.next b1)
      have S1 := Lib.hid (SW.out.next b1)
      have O1 := Lib.hid (OW.out.next b1)
      have G1 := Lib.hid g1
      have l2 := g1.lt
      have sB : w.heap.size + 1 < Bs := by omega
      have k0 : (0 : Int) ≤ (k : Int) := by omega
      have k16 : (k : Int) < 16 := by omega
      clear hW1 b1 g1 hBs
      cases hd : donB m S p k k
      · have HD := Lib.hid hd
        rw [hd] at hck
        clear hd
        go_upto_region 7 with (fail)
        rw [HW1.out, HBS.out]
        clear c0 c1 c2 c3
        go_wp2
        obtain ⟨gk0, hgk0⟩ : ∃ g1, g1 = gk := ⟨_, rfl⟩
        go_loopg [23] len (fun g2 vi wr2 => ∃ y : Nat, y ≤ len ∧ len ≤ y + g2 ∧ vi = .int .i64 y ∧ Blk wr2 Bs 59 (setP (accB S (fun _ => false) (k * m) ((finN (selTo m p m)).take y))) ∧ Blk wr2 (w.heap.size + 1) 59 (setP (accB S (donB m S p k) (k * m) ((finN (selTo m p m)).take y))) ∧ LLo w.heap.size wr2 u6 (clsL m S p k) ∧ Below w.heap.size w wr2 ∧ Blk wr2 w.heap.size 25 #[.int .i64 m, .int .i64 e, .slice (some ⟨b1, o1, none⟩) la ca, .slice (some ⟨b2, o2, none⟩) lb cb])
        case atStart => exact ⟨0, Nat.zero_le _, by omega, rfl, by rw [List.take_zero, acc_nil]; exact G1.out, by rw [List.take_zero, acc_nil]; exact S1.out, O1.out, B1.out, K1.out⟩
        case round =>
          obtain ⟨y, hy, hg2, rfl, hs2, hd2, ho2, hb, hbk⟩ := hrel
          have BX := Lib.hid hb
          have KX := Lib.hid hbk
          have GX := Lib.hid hs2
          have SX := Lib.hid hd2
          have OX := Lib.hid ho2
          have RV := Lib.hid (HR0.out.next hb)
          have hszx := hb.size
          have l3 := hs2.lt
          obtain ⟨c0, c1, c2, c3⟩ := blk4 hbk
          clear hs2 hd2 ho2 hb hbk hck
          by_cases hlt2 : y < len
          · have hyL : y < (selTo m p m).length := by rw [HLN.out]; exact hlt2
            obtain ⟨b', off', rfl, hb1', hc'⟩ := HL1.out.at_ hlt2
            obtain ⟨v, hv, hv1, hv2⟩ := finI_get (l := selTo m p m) (k := y) hyL
            have hck' : wr.cell? ⟨b', off' + y, none⟩ = some (.int .i64 (v : Int)) := by
              rw [BX.out.cell (p := ⟨b', off' + y, none⟩) hb1', hc']
              unfold lstP
              rw [hv1]
            have HV2 := Lib.hid hv2
            have hSl := R.sc hlt hv
            clear hc' hv1 hv2
            go_wp2_with (fail)
            refine (l1Add_any k v m e b1 o1 la ca b2 o2 lb cb S P _ RV.out hlt hv).mono ?_
            rintro e3 w3 ⟨rfl, hb3⟩
            have GY := Lib.hid (GX.out.next hb3)
            have SY := Lib.hid (SX.out.next hb3)
            have OY := Lib.hid (OX.out.next hb3)
            have KY := Lib.hid (KX.out.next hb3)
            have BY := Lib.hid (below_step BX.out hb3)
            clear hb3 c0 c1 c2 c3 hck'
            go_wp2_with (fail)
            refine (sput_any Bs (S (k * m + v)) _ w3 GY.out (by omega)).mono ?_
            rintro e4 w4 ⟨rfl, rfl⟩
            have G4 := Lib.hid (GY.out.put (a := S (k * m + v)))
            have S4 := Lib.hid (SY.out.far (p := ⟨Bs, S (k * m + v), none⟩) (by show w.heap.size + 1 ≠ Bs; omega) (.bool true))
            have O4 := Lib.hid (OY.out.setc (i := S (k * m + v)) (u := .bool true) GY.out (by decide) setP_noInt)
            have K4 := Lib.hid (KY.out.far (p := ⟨Bs, S (k * m + v), none⟩) (by show w.heap.size ≠ Bs; omega) (.bool true))
            have B4 := Lib.hid (BY.out.setCell (p := ⟨Bs, S (k * m + v), none⟩) (by show w.heap.size ≤ Bs; omega) (.bool true))
            obtain ⟨w4, hw4⟩ : ∃ w4, w3.setCell ⟨Bs, S (k * m + v), none⟩ (.bool true) = w4 := ⟨_, rfl⟩
            rw [hw4] at G4 S4 O4 K4 B4 ⊢
            clear hw4
            go_wp2_with (fail)
            refine (sput_any (w.heap.size + 1) (S (k * m + v)) _ w4 S4.out (by omega)).mono ?_
            rintro e5 w5 ⟨rfl, rfl⟩
            have S5 := Lib.hid (S4.out.put (a := S (k * m + v)))
            have G5 := Lib.hid (G4.out.far (p := ⟨w.heap.size + 1, S (k * m + v), none⟩) (by show Bs ≠ w.heap.size + 1; omega) (.bool true))
            have O5 := Lib.hid (O4.out.setc (i := S (k * m + v)) (u := .bool true) S4.out (by decide) setP_noInt)
            have K5 := Lib.hid (K4.out.far (p := ⟨w.heap.size + 1, S (k * m + v), none⟩) (by show w.heap.size ≠ w.heap.size + 1; omega) (.bool true))
            have B5 := Lib.hid (B4.out.setCell (p := ⟨w.heap.size + 1, S (k * m + v), none⟩) (Nat.le_succ _) (.bool true))
            obtain ⟨w5, hw5⟩ : ∃ w5, w4.setCell ⟨w.heap.size + 1, S (k * m + v), none⟩ (.bool true) = w5 := ⟨_, rfl⟩
            rw [hw5] at G5 S5 O5 K5 B5 ⊢
            clear hw5
            go_wp2
            go_roundg (len - (y + 1))
            case measure => omega
            case rel =>
              refine ⟨y + 1, by omega, by omega, by go_num, ?_, ?_, O5.out, B5.out, K5.out⟩
              · rw [HV2.out, ← acc_snoc]; exact G5.out
              · rw [HV2.out, ← acc_snoc]; exact S5.out
          · have hym : y = len := by omega
            subst hym
            have e0 : (finN (selTo m p m)).take y = finN (selTo m p m) := List.take_of_length_le (by have := HLN.out; simp [finN]; omega)
            have GZ := GX.out
            have SZ := SX.out
            rw [e0, acc_cos hpl] at GZ
            rw [e0, acc_don hpl, ← don_yes HD.out] at SZ
            have SZ := Lib.hid SZ
            have hii := sset_info (setP_size (p := cosB m S p k))
            obtain ⟨xs, hx1, hx2⟩ := OX.out
            have HX1 := Lib.hid hx1
            have HX2 := Lib.hid hx2
            have hcl := cls_len (m := m) (S := S) (p := p) (k := k)
            clear e0 hx1 hx2
            go_wp2_with (first
              | (refine wpList_load_row rfl 59 (.tmp 8) rfl Bs rfl _ (setP (cosB m S p k)) (0, 0) _ GZ Tryz.underlying59 rfl hii ?_)
              | (go_at_call 48; refine (l3SetP_any _ m wr hm' (fun _ h => R.cos_lt HPI.out hlt h)).mono ?_; rintro e4 w4 ⟨v4, rfl, ⟨B4, l4, q4, rfl, o4, n4, n5⟩, hb4⟩; have XO := Lib.hid (own_nextK HX1.out hb4); have LX := Lib.hid (HX2.out.next hb4); have B4' := Lib.hid (below_step BX.out hb4); have K4 := Lib.hid (KX.out.next hb4); have S4 := Lib.hid (SZ.out.next hb4); have O4 := Lib.hid o4; have s4 := hb4.size; clear hb4 o4 c0 c1 c2 c3)
              | (at_builtin; refine wpList_append_own_at _ rfl _ _ 30 rfl w.heap.size 23 i0 (.slice none 0 0) 1 24 Tryz.underlying30 hi hz0 hz1 hz2 rfl (by decide) _ _ _ rfl (XO.out.alloc _) ⟨w4.heap.size, 0, none⟩ 1 1 [.slice B4 l4 q4] rfl rfl (by intro i u hi; match i, hi with | 0, hi => simp at hi; subst hi; simp [Addr.add]) (by intro u hu; simp at hu; subst hu; rfl) (by unfold maxLen; omega) (by omega) (by simp; omega) ?_; intro v5 w5 hown5 hg5 _ hloc5; have HO5 := Lib.hid hown5; have HG5 := Lib.hid hg5; have HL5 := Lib.hid hloc5; clear hown5 hg5 hloc5))
            have hD4 : w.heap.size ≤ w4.heap.size := B4'.out.size
            go_roundg (m - (k + 1))
            case measure => omega
            case rel =>
              refine ⟨k + 1, by omega, by omega, by go_num, ?_, (append_keeps S4.out XO.out (by decide) HG5.out hD4).1, B4'.out.trans (append_keeps S4.out XO.out (by decide) HG5.out hD4).2.1, (append_keeps K4.out XO.out (by decide) HG5.out hD4).1⟩
              rw [cls_yes HD.out]
              refine LLo.more XO.out LX.out (O4.out.down BX.out.size) n4 n5 (fun g off hl e e' => ?_) HO5.out HG5.out HL5.out
              obtain ⟨g2, off2, e2, hge, _⟩ := O4.out.2 hl
              rw [e] at e2
              simp only [Option.some.injEq, Addr.mk.injEq, and_true] at e2
              have := (HX1.out.lt g e').2
              omega
      · have HD := Lib.hid hd
        rw [hd] at hck
        clear hd
        go_upto_region 7 with (fail)
        rw [HW1.out, HBS.out]
        clear c0 c1 c2 c3
        go_wp2
        go_roundg (m - (k + 1))
        case measure => omega
        case rel => exact ⟨k + 1, by omega, by omega, by go_num, by rw [cls_no HD.out]; exact O1.out, by rw [don_no HD.out]; exact S1.out, B1.out, K1.out⟩
    · have hkm : k = m := by omega
      subst hkm
      go_wp2
      go_ret
      exact ⟨_, rfl, OW.out, BW.out⟩

end Go.Proofs.YtajoimopahibcaaGreat



/- l5Map of the reading side: the index of the class of each element. -/
namespace Go.Proofs.YtajoimopahibcaaGreat
open Go.RowKit Go.Shelf
set_option maxRecDepth 100000

/-- A row of numbers. -/
def rowP (m : Nat) (f : Nat → Nat) : Array Value := (Array.range m).map fun i => .int .i64 (f i : Int)
section
variable {m : Nat} {f h : Nat → Nat}
theorem rowP_size : (rowP m f).size = m := by simp [rowP]
theorem rowP_get {i : Nat} (hi : i < m) : (rowP m f)[i]? = some (.int .i64 (f i : Int)) := by simp [rowP, hi]
theorem rowP_ext (hf : ∀ i, i < m → f i = h i) : rowP m f = rowP m h := by
  unfold rowP
  refine Array.map_congr_left fun i hi => ?_
  rw [hf i (by simpa using hi)]
theorem rowP_set {k c : Nat} : (rowP m f).setIfInBounds k (.int .i64 (c : Int)) = rowP m (fun x => if x = k then c else f x) := by
  refine Array.ext' ?_
  refine List.ext_getElem? fun j => ?_
  rw [Array.getElem?_toList, Array.getElem?_toList, Array.getElem?_setIfInBounds]
  by_cases hj : j < m
  · rw [rowP_get (f := fun x => if x = k then c else f x) hj]
    by_cases hk : k = j
    · subst hk; simp [rowP_size, hj]
    · rw [if_neg hk, rowP_get hj]
      simp [Ne.symm hk]
  · have e1 : (rowP m f)[j]? = none := by rw [Array.getElem?_eq_none]; rw [rowP_size]; omega
    have e2 : (rowP m (fun x => if x = k then c else f x))[j]? = none := by rw [Array.getElem?_eq_none]; rw [rowP_size]; omega
    rw [e1, e2]
    by_cases hk : k = j
    · subst hk; simp [rowP_size, hj]
    · rw [if_neg hk]
end
/-- A row that is full lies in its block. -/
theorem full_blk {w : World} {base n g : Nat} {e : TypeId} {xs : List Value} (h : w.ownsRow base e 1 (.slice (some ⟨g, 0, none⟩) n n) n xs) : Blk w g e xs.toArray ∧ base ≤ g := by
  rcases h.2 with ⟨h0, _⟩ | ⟨g', cap, cur, e1, hb, hg, _, _, hs, ht⟩
  · cases h0
  · simp only [Value.slice.injEq, Option.some.injEq, Addr.mk.injEq, and_true, true_and] at e1
    obtain ⟨rfl, rfl⟩ := e1
    have : cur = xs.toArray := by
      refine Array.ext' ?_
      rw [← ht, List.take_of_length_le (by simp; omega)]
    subst this
    exact ⟨hg, hb⟩

/-- The names of the elements of the first classes. -/
noncomputable def nmI (m : Nat) (S : Nat → Nat) (p : Nat → Bool) (i x : Nat) : Nat := if namK m S p m x < i then namK m S p m x else 0
/-- .. and of some of the next one's. -/
noncomputable def nmJ (m : Nat) (S : Nat → Nat) (p : Nat → Bool) (i : Nat) (l : List Nat) (x : Nat) : Nat := if decide (x ∈ l) = true then i else nmI m S p i x
section
variable {m e i : Nat} {S P : Nat → Nat} {p : Nat → Bool}
theorem nmI_zero : nmI m S p 0 = fun _ => 0 := funext fun x => by unfold nmI; rw [if_neg (by omega)]
theorem nmJ_nil : nmJ m S p i [] = nmI m S p i := funext fun x => by unfold nmJ; simp
theorem nmJ_snoc {l : List Nat} {u : Nat} : (fun x => if x = u then i else nmJ m S p i l x) = nmJ m S p i (l ++ [u]) := funext fun x => by
  unfold nmJ
  by_cases h : x = u
  · simp [h]
  · simp [h]
theorem RTab.nm_step (R : RTab m S P e) (hp : Idl m S P p) {a : Nat} (hi : (leas m S p m)[i]? = some a) {x : Nat} (hx : x < m) : nmJ m S p i (finN (selTo m (cosB m S p a) m)) x = nmI m S p (i + 1) x := by
  obtain ⟨hl, ha⟩ := List.getElem?_eq_some_iff.1 hi
  have ham : a < m := leas_lt (k := m) (by rw [← ha]; exact List.getElem_mem hl)
  unfold nmJ nmI
  by_cases hc : cosB m S p a x = true
  · have e1 : namK m S p m x = i := R.nam_uniq hp (Nat.le_refl _) hl (by rw [ha]; exact hc)
    rw [if_pos (by rw [decide_eq_true_iff]; exact lst_in.2 ⟨hx, hc⟩), e1, if_pos (by omega)]
  · rw [if_neg (by rw [decide_eq_true_iff]; intro h; exact hc (lst_in.1 h).2)]
    have hne : namK m S p m x ≠ i := fun e1 => by
      obtain ⟨b, hb, hb2⟩ := R.leas_cover hp (Nat.le_refl m) hx
      obtain ⟨hl2, h2⟩ := nam_get (k := m) (x := x) (List.any_eq_true.2 ⟨b, hb, hb2⟩)
      subst e1
      rw [ha] at h2
      exact hc h2
    by_cases h1 : namK m S p m x < i
    · rw [if_pos h1, if_pos (by omega)]
    · rw [if_neg h1, if_neg (by omega)]
theorem RTab.nam_lt (R : RTab m S P e) (hp : Idl m S P p) {x : Nat} (hx : x < m) : namK m S p m x < (leas m S p m).length := by
  obtain ⟨b, hb, hb2⟩ := R.leas_cover hp (Nat.le_refl m) hx
  exact (nam_get (k := m) (x := x) (List.any_eq_true.2 ⟨b, hb, hb2⟩)).1
theorem RTab.nm_all (R : RTab m S P e) (hp : Idl m S P p) {x : Nat} (hx : x < m) : nmI m S p (leas m S p m).length x = namK m S p m x := if_pos (R.nam_lt hp hx)
end

theorem cls_get {m k i a : Nat} {S : Nat → Nat} {p : Nat → Bool} (h : (leas m S p k)[i]? = some a) : (clsL m S p k)[i]? = some (lstP m (cosB m S p a)) := by unfold clsL; rw [List.getElem?_map, h]; rfl
theorem row_zero {m : Nat} : ((madeCells (Value.int .i64 0).cells (m * 1)).toList).toArray = rowP m (fun _ => 0) := by
  rw [fillL_zero (xs := [])]
  unfold fillL rowP
  refine Array.ext' ?_
  simp

set_option maxHeartbeats 8000000 in
theorem l5Map_any (v : Value) (m e : Nat) (S P : Nat → Nat) (p : Nat → Bool) (w : World) (R : RTab m S P e) (hp : Idl m S P p) (hm' : m ≤ 16) (hZ : LLi w v (clsL m S p m)) :
    Calls Tryz.prog 110 #[.int .i64 (m : Int), v] w fun e' w' => ∃ g, e' = .returned (.slice (some ⟨g, 0, none⟩) m m) ∧ w.heap.size ≤ g ∧ Blk w' g 3 (rowP m (namK m S p m)) ∧ Below w.heap.size w w' := by
  obtain ⟨i0, hi, hz0, hz1, hz2⟩ := info_parts int_info
  obtain ⟨g0, cap0, rfl, hcap, hg0, hcell⟩ := hZ
  obtain ⟨n, hn⟩ : ∃ n, (clsL m S p m).length = n := ⟨_, rfl⟩
  have hnl : (leas m S p m).length = n := by rw [← hn]; unfold clsL; rw [List.length_map]
  have hnm : n ≤ m := by rw [← hnl]; exact leas_len m
  rw [hn] at hcap ⊢
  have HCE := Lib.hid hcell
  have HPI := Lib.hid hp
  have HNL := Lib.hid hnl
  clear hcell hp hn hnl
  go_enter Tryz.func110, Tryz.ntmps110
  go_wp2_with (at_make; refine wpList_make_full _ rfl (.tmp 10) (.tmp 10) 23 rfl w.heap.size 3 i0 (.int .i64 0) 1 Tryz.underlying23 hi hz0 hz1 .i64 .i64 _ _ m rfl rfl rfl rfl (by rw [hz2]; omega) (by unfold maxLen; omega) (Nat.le_refl _) ?_; intro w1 hown1 hg1)
  have hk1 := (full_blk hown1).1
  rw [row_zero] at hk1
  have K1 := Lib.hid hk1
  have B1 := Lib.hid ((Below.refl w.heap.size w).grown hg1 (Nat.le_refl _) (by simp))
  clear hown1 hg1 hk1
  go_loopg [14] n (fun g vi wr => ∃ i : Nat, i ≤ n ∧ n ≤ i + g ∧ vi = .int .i64 i ∧ Blk wr w.heap.size 3 (rowP m (nmI m S p i)) ∧ Below w.heap.size w wr)
  case atStart => exact ⟨0, Nat.zero_le _, by omega, rfl, by rw [nmI_zero]; exact K1.out, B1.out⟩
  case round =>
    obtain ⟨i, hi1, hg, rfl, hk, hb⟩ := hrel
    have KW := Lib.hid hk
    have BW := Lib.hid hb
    clear hk hb
    by_cases hlt : i < n
    · have hl : i < (leas m S p m).length := by rw [HNL.out]; exact hlt
      obtain ⟨a, ha⟩ : ∃ a, (leas m S p m)[i]? = some a := ⟨_, List.getElem?_eq_getElem hl⟩
      obtain ⟨B, c, hc1, hc2, hc3, hc4⟩ := HCE.out i _ (cls_get ha)
      obtain ⟨q, hq⟩ : ∃ q, cosB m S p a = q := ⟨_, rfl⟩
      have HA := Lib.hid ha
      have HQ := Lib.hid hq
      rw [hq] at hc1 hc2 hc3 hc4
      obtain ⟨len, hlen⟩ : ∃ len, (lstP m q).length = len := ⟨_, rfl⟩
      rw [hlen] at hc1 hc2 hc3 hc4
      have HLN := Lib.hid (show (selTo m q m).length = len by rw [← hlen, lst_len])
      have hlm : len ≤ m := by rw [← HLN.out]; exact selTo_len m
      have HI4 := Lib.hid hc4
      have hcw : wr.cell? ⟨g0, i, none⟩ = some (.slice B len c) := (BW.out.cell (p := ⟨g0, i, none⟩) hg0).trans hc1
      clear hc1 hc4 ha hq hlen
      go_wp2
      obtain ⟨gk0, hgk0⟩ : ∃ g1, g1 = gk := ⟨_, rfl⟩
      clear hcw
      go_loopg [21] len (fun g2 vi wr => ∃ y : Nat, y ≤ len ∧ len ≤ y + g2 ∧ vi = .int .i64 y ∧ Blk wr w.heap.size 3 (rowP m (nmJ m S p i ((finN (selTo m q m)).take y))) ∧ Below w.heap.size w wr)
      case atStart => exact ⟨0, Nat.zero_le _, by omega, rfl, by rw [List.take_zero, nmJ_nil]; exact KW.out, BW.out⟩
      case round =>
        obtain ⟨y, hy, hg2, rfl, hk, hb⟩ := hrel
        have KX := Lib.hid hk
        have BX := Lib.hid hb
        clear hk hb
        by_cases hlt2 : y < len
        · have hyL : y < (selTo m q m).length := by rw [HLN.out]; exact hlt2
          obtain ⟨b', off', rfl, hb1', hc'⟩ := HI4.out.at_ hlt2
          obtain ⟨u, hu, hu1, hu2⟩ := finI_get (l := selTo m q m) (k := y) hyL
          have hck' : wr.cell? ⟨b', off' + y, none⟩ = some (.int .i64 (u : Int)) := by
            rw [BX.out.cell (p := ⟨b', off' + y, none⟩) hb1', hc']
            unfold lstP
            rw [hu1]
          have HU2 := Lib.hid hu2
          have hcs := (KX.out.cell u).trans (rowP_get hu)
          have hfs := KX.out.frozen u
          have u0 : (0 : Int) ≤ (u : Int) := by omega
          have um : (u : Int) < (m : Int) := by omega
          clear hc' hu1 hu2
          go_wp2
          go_roundg (len - (y + 1))
          case measure => omega
          case rel =>
            refine ⟨y + 1, by omega, by omega, by go_num, ?_, BX.out.setCell (p := ⟨w.heap.size, u, none⟩) (Nat.le_refl _) _⟩
            rw [HU2.out, ← nmJ_snoc, ← rowP_set]
            exact KX.out.set_ u _
        · have hym : y = len := by omega
          subst hym
          have e0 : (finN (selTo m q m)).take y = finN (selTo m q m) := List.take_of_length_le (by have := HLN.out; simp [finN]; omega)
          have KZ := KX.out
          rw [e0, ← HQ.out, rowP_ext (fun x hx => R.nm_step HPI.out HA.out hx)] at KZ
          have KZ := Lib.hid KZ
          clear e0
          go_wp2
          go_roundg (n - (i + 1))
          case measure => omega
          case rel => exact ⟨i + 1, by omega, by omega, by go_num, KZ.out, BX.out⟩
    · have hkm : i = n := by omega
      subst hkm
      have KZ := KW.out
      rw [← HNL.out, rowP_ext (fun x hx => R.nm_all HPI.out hx)] at KZ
      have KZ := Lib.hid KZ
      go_wp2
      go_ret
      exact ⟨_, rfl, Nat.le_refl _, KZ.out, BW.out⟩

end Go.Proofs.YtajoimopahibcaaGreat



/- An append to a row of the call's own inside a region that draws its order. -/
namespace Go.Proofs.YtajoimopahibcaaGreat
open Go.RowKit Go.Shelf
set_option maxRecDepth 100000

def numL (k : Nat) (f : Nat → Nat) : List Int := (List.range k).map fun j => (f j : Int)
def numV (k : Nat) (f : Nat → Nat) : List Value := (numL k f).map (.int .i64)
section
variable {k : Nat} {f : Nat → Nat}
theorem numL_len : (numL k f).length = k := by simp [numL]
theorem numL_succ : numL (k + 1) f = numL k f ++ [(f k : Int)] := by simp [numL, List.range_succ]
theorem numV_succ : numV (k + 1) f = numV k f ++ [.int .i64 (f k : Int)] := by simp [numV, numL_succ]
theorem numV_len : (numV k f).length = k := by simp [numV, numL_len]
end
def OwnK (D k : Nat) (f : Nat → Nat) (v : Value) (w : World) : Prop := w.ownsRow D 3 1 v k (numV k f)
theorem OwnK.kept0 {D k : Nat} {f : Nat → Nat} {v : Value} {w w' : World} (h : OwnK D k f v w) (hg : w.grownBy w' none) : OwnK D k f v w' := World.ownsRow.kept h hg (by cases hv : v.ownBlock <;> simp)
theorem addr_add (b off j : Nat) : (⟨b, off, none⟩ : Addr).add j = ⟨b, off + j, none⟩ := by simp [Addr.add]
/-- .. and what has been appended stays, whichever of the values that own it is meant. -/
theorem run_app {D k b : Nat} {f : Nat → Nat} {v : Value} {x : World} (ty : TypeId) (hv : OwnK D k f v x) (hb : x.cell? ⟨b, 0, none⟩ = some (.int .i64 (f k : Int))) (hk : k ≤ 1000) (hD : D ≤ x.heap.size) :
    ∃ v' x', (Builtin.append_ #[23, 23] ty #[v, .slice (some ⟨b, 0, none⟩) 1 1]).run Tryz.prog x = .ok v' x' ∧ OwnK D (k + 1) f v' x' ∧ x.grownBy x' v.ownBlock ∧ (v'.ownBlock = v.ownBlock ∨ v'.ownBlock = some x.heap.size) ∧ (∀ u, OwnK D (k + 1) f u x → OwnK D (k + 1) f u x') ∧ ∀ u, OwnK D k f u x → OwnK D k f u x' := by
  obtain ⟨i0, hi, hz0, hz1, hz2⟩ := info_parts int_info
  have hsrc : ∀ (j : Nat) (u : Value), ([Value.int .i64 (f k : Int)])[j]? = some u → x.cell? ((⟨b, 0, none⟩ : Addr).add j) = some u := fun j u hu => by
    have hj : j = 0 := by
      have := (List.getElem?_eq_some_iff.1 hu).1
      simp at this
      exact this
    subst hj
    simp at hu
    subst hu
    simpa [Addr.add] using hb
  have h1c : ∀ u ∈ [Value.int .i64 (f k : Int)], u.oneCell' = true := fun u hu => by simp at hu; subst hu; rfl
  obtain ⟨v', x', hrun, h1, h2, _, h4⟩ := run_append_own_at (P := Tryz.prog) x D 23 ty 3 i0 (.int .i64 0) 1 8 Tryz.underlying23 hi hz0 hz1 hz2 rfl (by omega) v k (numV k f) hv ⟨b, 0, none⟩ 1 1 [.int .i64 (f k : Int)] rfl hsrc h1c (by unfold maxLen; omega) (by omega) hD
  have main : ∀ (k' : Nat) (u : Value), (k' = k ∨ k' = k + 1) → OwnK D k' f u x → OwnK D k' f u x' := fun k' u hk' hu => ?main
  exact ⟨v', x', hrun, by unfold OwnK; rw [numV_succ]; exact h1, h2, h4, fun u hu => main _ u (.inr rfl) hu, fun u hu => main _ u (.inl rfl) hu⟩
  have hv0 := hv
  rcases hv.2 with ⟨rfl, h0⟩ | ⟨g, cap, cur, rfl, hg, hblk, hc, hcm, hs, ht⟩
  · exact hu.kept0 h2
  · by_cases hr : k + 1 ≤ cap
    · have hbl : Blk x g 3 cur := hblk
      have hrun2 := run_append_room_cells (P := Tryz.prog) x 23 ty 3 i0 Tryz.underlying23 hi g 0 k cap ⟨b, 0, none⟩ 1 1 [.int .i64 (f k : Int)] (by rw [hz1]; rfl) hsrc h1c hr
        (fun j hj => by rw [hz1, Nat.zero_add, Nat.mul_one, hbl.cell, Array.getElem?_eq_getElem (by simp at hj; omega)]; rfl) (fun j hj => by rw [hz1, Nat.zero_add, Nat.mul_one]; exact hbl.frozen _)
      rw [hrun] at hrun2
      injection hrun2 with e1 e2
      rw [hz1, Nat.zero_add, Nat.mul_one] at e2
      subst e2
      by_cases hug : u.ownBlock = some g
      · rcases hu.2 with ⟨e0, _⟩ | ⟨g2, cap2, cur2, rfl, hg2, hblk2, hc2, hcm2, hs2, ht2⟩
        · subst e0; cases hug
        · have e3 : g2 = g := by simpa [Value.ownBlock] using hug
          subst e3
          have e4 : cur2 = cur := by
            have := hblk2.symm.trans hblk
            simp only [Option.some.injEq, Obj.cells.injEq, and_true] at this
            exact this
          subst e4
          have hb3 := hbl.set_ k (.int .i64 (f k : Int))
          refine ⟨hu.1, .inr ⟨g2, cap2, _, rfl, hg2, hb3, hc2, hcm2, by simpa using hs2, ?_⟩⟩
          rw [← ht2]
          refine List.ext_getElem? fun j => ?_
          rw [List.getElem?_take, List.getElem?_take]
          by_cases hj : j < k' * 1
          · rw [if_pos hj, if_pos hj, Array.getElem?_toList, Array.getElem?_toList, Array.getElem?_setIfInBounds]
            by_cases hjk : k = j
            · subst hjk
              have hkk : k' = k + 1 := by omega
              subst hkk
              have hk2 : cur2[k]? = some (.int .i64 (f k : Int)) := by
                have e5 : cur2.toList[k]? = (numV (k + 1) f)[k]? := by rw [← ht2, List.getElem?_take]; simp
                rw [← Array.getElem?_toList, e5, numV_succ, List.getElem?_append_right (by rw [numV_len]; exact Nat.le_refl _), numV_len]
                simp
              rw [if_pos rfl, if_pos (Array.getElem?_eq_some_iff.1 hk2).1, hk2]
            · rw [if_neg hjk]
          · rw [if_neg hj, if_neg hj]
      · exact World.ownsRow.kept hu h2 (.inr hug)
    · obtain ⟨v2, x2, hrun2, _, hg2⟩ := run_append_arg_grows (P := Tryz.prog) x 23 ty 3 i0 (.int .i64 0) 1 8 Tryz.underlying23 hi hz0 hz1 hz2 rfl (by omega) ⟨g, 0, none⟩ k cap (numV k f) (by rw [numV_len]; omega) (fun j u hu => by
          have hj : j < k := by have := (List.getElem?_eq_some_iff.1 hu).1; rwa [numV_len] at this
          have hbl : Blk x g 3 cur := hblk
          have e0 : (⟨g, 0, none⟩ : Addr).add j = ⟨g, j, none⟩ := by have := addr_add g 0 j; rwa [Nat.zero_add] at this
          have e5 : cur.toList[j]? = (numV k f)[j]? := by rw [← ht, List.getElem?_take]; simp; omega
          rw [e0, hbl.cell, ← Array.getElem?_toList, e5, hu]) ⟨b, 0, none⟩ 1 1 [.int .i64 (f k : Int)] rfl hsrc (by omega) (by unfold maxLen; omega) (by omega)
      rw [hrun] at hrun2
      injection hrun2 with e1 e2
      subst e2
      exact hu.kept0 hg2

/-! ### what the region asks of its makers -/
def ApR (row : Option Nat) (D k : Nat) (f : Nat → Nat) (w w' : World) : Prop := w.grownBy w' row ∧ (∀ v, OwnK D (k + 1) f v w → OwnK D (k + 1) f v w') ∧ ∀ v, OwnK D k f v w → OwnK D k f v w'
section
variable {row : Option Nat} {D k : Nat} {f : Nat → Nat}
theorem grownBy_refl (w : World) : w.grownBy w row := ⟨rfl, rfl, rfl, Nat.le_refl _, fun _ _ _ => rfl⟩
theorem grownBy_trans {a b c : World} (h : a.grownBy b row) (h' : b.grownBy c row) : a.grownBy c row :=
  ⟨h'.os.trans h.os, h'.tape.trans h.tape, h'.output.trans h.output, Nat.le_trans h.size h'.size, fun j hj hr => (h'.block j (Nat.lt_of_lt_of_le hj h.size) hr).trans (h.block j hj hr)⟩
theorem grownBy_below {a b : World} (h : Below a.heap.size a b) : a.grownBy b row := ⟨h.os, h.tape, h.output, h.size, fun j hj _ => h.block j hj⟩
theorem ApR.refl (w : World) : ApR row D k f w w := ⟨grownBy_refl w, fun _ h => h, fun _ h => h⟩
theorem ApR.trans (a b c : World) (h : ApR row D k f a b) (h' : ApR row D k f b c) : ApR row D k f a c := ⟨grownBy_trans h.1 h'.1, fun v hv => h'.2.1 v (h.2.1 v hv), fun v hv => h'.2.2 v (h.2.2 v hv)⟩
theorem ApR.of_below {w w' : World} (hb : Below w.heap.size w w') : ApR row D k f w w' := ⟨grownBy_below hb, fun _ h => own_nextK h hb, fun _ h => own_nextK h hb⟩
theorem ApR.drew (w : World) : ApR row D k f w w.drew := ApR.of_below (Below.refl _ _).drew
end
def apMk (i : Nat) : Bool := i == 10 || i == 13 || i == 14
structure ApPhi (row : Option Nat) (D D0 k : Nat) (f : Nat → Nat) (c : Nat) (i : Nat) (v : Value) (w : World) : Prop where
  p10 : i = 10 → v = .int .i64 (c : Int)
  p13 : i = 13 → ∃ g, v = .slice (some ⟨g, 0, none⟩) 1 1 ∧ some g ≠ row ∧ g < w.heap.size ∧ w.cell? ⟨g, 0, none⟩ = some (.int .i64 (f k : Int))
  p14 : i = 14 → OwnK D (k + 1) f v w ∧ (v.ownBlock = row ∨ ∃ g, v.ownBlock = some g ∧ D0 ≤ g)
structure ApSh (c : Nat) (i : Nat) (v : Value) : Prop where
  p10 : i = 10 → v = .int .i64 (c : Int)
  p13 : i = 13 → ∃ g, v = .slice (some ⟨g, 0, none⟩) 1 1
  p14 : i = 14 → ∃ A l q, v = .slice A l q
section
variable {row : Option Nat} {D D0 k c : Nat} {f : Nat → Nat}
theorem ApPhi_stable (i : Nat) (v : Value) (w w' : World) (h : ApPhi row D D0 k f c i v w) (hr : ApR row D k f w w') : ApPhi row D D0 k f c i v w' :=
  ⟨h.p10, fun e => by
    obtain ⟨g, h1, h2, h3, h4⟩ := h.p13 e
    exact ⟨g, h1, h2, Nat.lt_of_lt_of_le h3 hr.1.size, (World.cell?_of_block (a := ⟨g, 0, none⟩) (hr.1.block g h3 h2)).trans h4⟩, fun e => ⟨hr.2.1 v (h.p14 e).1, (h.p14 e).2⟩⟩
theorem ApSh_of (i : Nat) (v : Value) (w : World) (h : ApPhi row D D0 k f c i v w) : ApSh c i v :=
  ⟨h.p10, fun e => by obtain ⟨g, h1, _⟩ := h.p13 e; exact ⟨g, h1⟩, fun e => by
    rcases (h.p14 e).1.2 with ⟨h1, _⟩ | ⟨g, cap, cur, h1, _⟩
    · exact ⟨none, 0, 0, h1⟩
    · exact ⟨_, _, _, h1⟩⟩
end
def ap0 (c i : Nat) : Value := if i = 10 then .int .i64 (c : Int) else if i = 13 then .slice (some ⟨0, 0, none⟩) 1 1 else .slice none 0 0
theorem ApSh_zero {c : Nat} (i : Nat) : ApSh c i (ap0 c i) := ⟨fun e => by subst e; rfl, fun e => by subst e; exact ⟨0, rfl⟩, fun e => by subst e; exact ⟨none, 0, 0, rfl⟩⟩
theorem makes_app {row : Option Nat} {D D0 k b : Nat} {f : Nat → Nat} {o : Oper} {a : Act} (s y : Operand) (hop : o.op = .call { callee := .builtin .append, args := #[s, y], argTypes := #[23, 23] }) (v : Value) (x : World)
    (hs : a.eval s = v) (hx : a.eval y = .slice (some ⟨b, 0, none⟩) 1 1) (hv : OwnK D k f v x) (hr : v.ownBlock = row) (hb : x.cell? ⟨b, 0, none⟩ = some (.int .i64 (f k : Int))) (hk : k ≤ 1000) (hD : D ≤ x.heap.size) (hD0 : D0 ≤ x.heap.size) :
    makesAtR Tryz.prog (ApR row D k f) (fun _ => True) o a x fun u x' => OwnK D (k + 1) f u x' ∧ (u.ownBlock = row ∨ ∃ g, u.ownBlock = some g ∧ D0 ≤ g) := by
  obtain ⟨v', x', hrun, h1, h2, h3, h4, h5⟩ := run_app o.type hv hb hk hD
  unfold makesAtR execOp
  simp only [hop, resolve, invoke, builtin, Sem.run_bind, Sem.run_pure, Result.andThen_ok, List.map_toArray, List.map_cons, List.map_nil, hs, hx, hrun, makesUponR]
  rw [hr] at h2 h3
  exact ⟨⟨h2, h4, h5⟩, trivial, h1, h3.imp id fun h => ⟨_, h, hD0⟩⟩

end Go.Proofs.YtajoimopahibcaaGreat



/- l5Quotient of the reading side: the ring of the classes. -/
namespace Go.Proofs.YtajoimopahibcaaGreat
open Go.RowKit Go.Shelf
set_option maxRecDepth 100000

theorem Grow.set2 {D : Nat} {w w3 : World} {bx gg cap m : Nat} {n o x : Int} {v2 v3 : Value} {k2 k3 : Nat} {X Y : List Int} (h : Grow D w bx n o v2 v3 k2 k3 X Y)
    (hown : w3.ownsRow D 3 1 (.slice (some ⟨gg, 0, none⟩) m cap) (k2 + 1) (X.map (.int .i64) ++ [.int .i64 x])) (hg : w.grownBy w3 v2.ownBlock)
    (hat : v2.ownBlock = some gg ∨ w.heap.size ≤ gg) :
    Grow D (w3.setCell ⟨bx, 2, none⟩ (.slice (some ⟨gg, 0, none⟩) m cap)) bx n o (.slice (some ⟨gg, 0, none⟩) m cap) v3 (k2 + 1) k3 (X ++ [x]) Y ∧ Below D w (w3.setCell ⟨bx, 2, none⟩ (.slice (some ⟨gg, 0, none⟩) m cap)) := by
  have hlt := h.box.lt
  have kk := h.o3.kept hg (by
    cases e3 : v3.ownBlock with
    | none => exact .inl rfl
    | some g => exact .inr fun e => h.n23 g e.symm e3)
  have kb : Blk w3 bx 25 #[.int .i64 n, .int .i64 o, v2, v3] := (hg.block bx hlt (Ne.symm h.n2)).trans h.box
  have nb : gg ≠ bx := by
    rcases hat with e | e
    · intro e2; exact h.n2 (by rw [e, e2])
    · omega
  have nb' : (Value.slice (some ⟨gg, 0, none⟩) m cap).ownBlock ≠ some bx := by simpa [Value.ownBlock] using nb
  refine ⟨⟨by simpa using kb.set_ 2 _, h.hD, ?_, ?_, nb', h.n3, fun g e2 e3 => ?_⟩, ?_⟩
  · rw [List.map_append]; exact ownsRow_setCell_other hown nb' _
  · exact ownsRow_setCell_other kk h.n3 _
  · have eg : gg = g := by simpa [Value.ownBlock] using e2
    rcases hat with e | e
    · exact h.n23 g (by rw [e, eg]) e3
    · have := (h.o3.lt g e3).2
      omega
  · exact (Below.grown (Below.refl _ _) hg (Nat.le_of_lt (Nat.lt_of_le_of_lt h.hD hlt)) (fun k hk => (h.o2.lt k hk).1)).setCell h.hD _
theorem Grow.set3 {D : Nat} {w w3 : World} {bx gg cap m : Nat} {n o x : Int} {v2 v3 : Value} {k2 k3 : Nat} {X Y : List Int} (h : Grow D w bx n o v2 v3 k2 k3 X Y)
    (hown : w3.ownsRow D 3 1 (.slice (some ⟨gg, 0, none⟩) m cap) (k3 + 1) (Y.map (.int .i64) ++ [.int .i64 x])) (hg : w.grownBy w3 v3.ownBlock)
    (hat : v3.ownBlock = some gg ∨ w.heap.size ≤ gg) :
    Grow D (w3.setCell ⟨bx, 3, none⟩ (.slice (some ⟨gg, 0, none⟩) m cap)) bx n o v2 (.slice (some ⟨gg, 0, none⟩) m cap) k2 (k3 + 1) X (Y ++ [x]) ∧ Below D w (w3.setCell ⟨bx, 3, none⟩ (.slice (some ⟨gg, 0, none⟩) m cap)) := by
  have hlt := h.box.lt
  have kk := h.o2.kept hg (by
    cases e3 : v2.ownBlock with
    | none => exact .inl rfl
    | some g => exact .inr fun e => h.n23 g e3 e.symm)
  have kb : Blk w3 bx 25 #[.int .i64 n, .int .i64 o, v2, v3] := (hg.block bx hlt (Ne.symm h.n3)).trans h.box
  have nb : gg ≠ bx := by
    rcases hat with e | e
    · intro e2; exact h.n3 (by rw [e, e2])
    · omega
  have nb' : (Value.slice (some ⟨gg, 0, none⟩) m cap).ownBlock ≠ some bx := by simpa [Value.ownBlock] using nb
  refine ⟨⟨by simpa using kb.set_ 3 _, h.hD, ?_, ?_, h.n2, nb', fun g e2 e3 => ?_⟩, ?_⟩
  · exact ownsRow_setCell_other kk h.n2 _
  · rw [List.map_append]; exact ownsRow_setCell_other hown nb' _
  · have eg : gg = g := by simpa [Value.ownBlock] using e3
    rcases hat with e | e
    · exact h.n23 g e2 (by rw [e, eg])
    · have := (h.o2.lt g e2).2
      omega
  · exact (Below.grown (Below.refl _ _) hg (Nat.le_of_lt (Nat.lt_of_le_of_lt h.hD hlt)) (fun k hk => (h.o3.lt k hk).1)).setCell h.hD _


/-- The least element of a class. -/
noncomputable def leaN (m : Nat) (S : Nat → Nat) (p : Nat → Bool) (i : Nat) : Nat := ((leas m S p m)[i]?).getD 0
noncomputable def qN (m : Nat) (S : Nat → Nat) (p : Nat → Bool) : Nat := (leas m S p m).length
/-- A table of the ring of classes. -/
noncomputable def quoF (m : Nat) (S : Nat → Nat) (p : Nat → Bool) (T : Nat → Nat) (q : Nat) : Nat := namK m S p m (T (leaN m S p (q / qN m S p) * m + leaN m S p (q % qN m S p)))
section
variable {m e : Nat} {S P : Nat → Nat} {p : Nat → Bool}
theorem lea_get {i : Nat} (h : i < qN m S p) : (leas m S p m)[i]? = some (leaN m S p i) := by unfold leaN; rw [List.getElem?_eq_getElem h]; rfl
theorem lea_lt {i : Nat} (h : i < qN m S p) : leaN m S p i < m := leas_lt (k := m) (List.mem_of_getElem? (lea_get h))
theorem cnt_le : qN m S p ≤ m := leas_len m
theorem RTab.cnt_pos (R : RTab m S P e) (hp : Idl m S P p) : 1 ≤ qN m S p := by
  have := R.nam_lt hp R.hm
  unfold qN; omega
theorem quo_at {T : Nat → Nat} {i j : Nat} (hj : j < qN m S p) : quoF m S p T (i * qN m S p + j) = namK m S p m (T (leaN m S p i * m + leaN m S p j)) := by
  unfold quoF; rw [(idx_two hj).1, (idx_two hj).2]
theorem cls_cnt : (clsL m S p m).length = qN m S p := by unfold clsL qN; rw [List.length_map]
end

/-- A class as it is read: its least element comes first. -/
theorem cls_at {m e i : Nat} {S P : Nat → Nat} {p : Nat → Bool} {w : World} {g : Nat} (R : RTab m S P e) (hp : Idl m S P p) (h : ∀ (i : Nat) (Z : List Int), (clsL m S p m)[i]? = some Z → ∃ (B : Option Addr) (c : Nat), w.cell? ⟨g, i, none⟩ = some (.slice B Z.length c) ∧ Z.length ≤ c ∧ Z.length ≤ 1048570 ∧ Ints w w.heap.size B Z.length Z) (hi : i < qN m S p) :
    ∃ b o l c : Nat, w.cell? ⟨g, i, none⟩ = some (.slice (some ⟨b, o, none⟩) l c) ∧ 1 ≤ l ∧ l ≤ c ∧ b < w.heap.size ∧ w.cell? ⟨b, o, none⟩ = some (.int .i64 (leaN m S p i : Int)) := by
  obtain ⟨t, ht⟩ := R.class_first hp (List.mem_of_getElem? (lea_get hi))
  obtain ⟨B, c, h1, h2, _, h4⟩ := h i _ (cls_get (lea_get hi))
  rw [ht] at h1 h2 h4
  obtain ⟨b, o, rfl, hb, hc⟩ := h4.2 (by simp)
  have := hc 0 (leaN m S p i : Int) (by simp)
  rw [Nat.add_zero] at this
  exact ⟨b, o, _, c, h1, by simp, h2, hb, this⟩

set_option maxHeartbeats 8000000 in
theorem l5Quotient_any (C : Option Addr) (len cap : Nat) (p : Nat → Bool) (m e b1 o1 la ca b2 o2 lb cb : Nat) (S P : Nat → Nat) (w : World) (hr : RingAt w m e b1 o1 la ca b2 o2 lb cb S P) (R : RTab m S P e) (hp : Idl m S P p) (hL : Ints w w.heap.size C len (lstP m p)) (hlen : len ≤ 9223372036854775807) :
    Calls Tryz.prog 74 #[.agg #[.int .i64 m, .int .i64 e, .slice (some ⟨b1, o1, none⟩) la ca, .slice (some ⟨b2, o2, none⟩) lb cb], .slice C len cap] w fun e' w' => ∃ v g, e' = .returned (.tuple #[v, .slice (some ⟨g, 0, none⟩) m m]) ∧ NewRing w.heap.size w' v (qN m S p) (namK m S p m e) (qN m S p * qN m S p) (numL (qN m S p * qN m S p) (quoF m S p S)) (numL (qN m S p * qN m S p) (quoF m S p P)) ∧ w.heap.size ≤ g ∧ Blk w' g 3 (rowP m (namK m S p m)) ∧ Below w.heap.size w w' := by
  obtain ⟨W, hW⟩ : ∃ W, (w.alloc (.cells #[.int .i64 m, .int .i64 e, .slice (some ⟨b1, o1, none⟩) la ca, .slice (some ⟨b2, o2, none⟩) lb cb] 25)).alloc (.cells #[.int .i64 0, .int .i64 0, .slice none 0 0, .slice none 0 0] 25) = W := ⟨_, rfl⟩
  have k0 : Blk W w.heap.size 25 #[.int .i64 m, .int .i64 e, .slice (some ⟨b1, o1, none⟩) la ca, .slice (some ⟨b2, o2, none⟩) lb cb] := by
    subst hW; exact (Blk.new w _ _).alloc _
  have k1 : Blk W (w.heap.size + 1) 25 #[.int .i64 0, .int .i64 0, .slice none 0 0, .slice none 0 0] := by
    subst hW
    have := Blk.new (w.alloc (.cells #[.int .i64 m, .int .i64 e, .slice (some ⟨b1, o1, none⟩) la ca, .slice (some ⟨b2, o2, none⟩) lb cb] 25)) 25 #[.int .i64 0, .int .i64 0, .slice none 0 0, .slice none 0 0]
    rw [World.size_alloc] at this
    exact this
  have b0 : Below w.heap.size w W := by
    subst hW; exact ((Below.refl _ _).alloc (Nat.le_refl _) _).alloc (by simp) _
  obtain ⟨c0, c1, c2, c3⟩ := blk4 k0
  have hm' := hr.hm'
  have hm := hr.hm
  have he := hr.he
  have HR0 := Lib.hid hr
  have HPI := Lib.hid hp
  have HL := Lib.hid hL
  have B0 := Lib.hid b0
  have HW := Lib.hid hW
  have K0 := Lib.hid k0
  have KR := Lib.hid k1
  have hs0 := k1.lt
  have n1 : 1 ≤ qN m S p := R.cnt_pos hp
  have nm : qN m S p ≤ m := cnt_le
  have HCC := Lib.hid (cls_cnt (m := m) (S := S) (p := p))
  clear hr hp hL b0 hW k0 k1
  go_enter Tryz.func74, Tryz.ntmps74
  go_wp2_with (fail)
  rw [HW.out]
  refine (l5Classes_any C len cap p m e b1 o1 la ca b2 o2 lb cb S P W (HR0.out.next B0.out) R HPI.out (HL.out.next B0.out) hlen).mono ?_
  rintro e1 w1 ⟨v1, rfl, hl1, hb1⟩
  have hL1 := hl1.read (by rw [HCC.out]; exact n1)
  have B1 := Lib.hid (below_step B0.out hb1)
  have K1 := Lib.hid (K0.out.next hb1)
  have KR1 := Lib.hid (KR.out.next hb1)
  obtain ⟨d0, d1, d2, d3⟩ := blk4 K1.out
  have LI1 := Lib.hid hL1
  clear hb1 hl1 c0 c1 c2 c3
  go_wp2_with (fail)
  refine (l5Map_any v1 m e S P p w1 R HPI.out hm' LI1.out).mono ?_
  rintro e2 w2 ⟨gN, rfl, hgN, hkN, hb2⟩
  obtain ⟨gC, capC, rfl, hcap, hgC, hcells⟩ := LI1.out.next hb2
  rw [HCC.out] at hcap ⊢
  have HCE := Lib.hid hcells
  have B2 := Lib.hid (below_step B1.out hb2)
  have K2 := Lib.hid (K1.out.next hb2)
  have KR2 := Lib.hid (KR1.out.next hb2)
  have KN := Lib.hid hkN
  obtain ⟨c0, c1, c2, c3⟩ := blk4 K2.out
  have hce := (KN.out.cell e).trans (rowP_get he)
  have e0 : (0 : Int) ≤ (e : Int) := by omega
  have em : (e : Int) < (m : Int) := by omega
  have s2 := hb2.size
  have lR1 := KR1.out.lt
  have sw2 := B2.out.size
  have lN := hkN.lt
  have lR := KR2.out.lt
  clear hb2 hcells hkN d0 d1 d2 d3
  go_wp2
  obtain ⟨bx, hbx⟩ : ∃ bx, w2.heap.size = bx := ⟨_, rfl⟩
  obtain ⟨W3, hW3⟩ : ∃ W3, w2.alloc (.cells #[.int .i64 (qN m S p : Int), .int .i64 (namK m S p m e : Int), .slice none 0 0, .slice none 0 0] 25) = W3 := ⟨_, rfl⟩
  have k3 : Grow bx W3 bx (qN m S p) (namK m S p m e) (.slice none 0 0) (.slice none 0 0) 0 0 [] [] := by
    refine ⟨?_, Nat.le_refl _, World.ownsRow_nil _ _ _ _, World.ownsRow_nil _ _ _ _, by simp [Value.ownBlock], by simp [Value.ownBlock], by simp [Value.ownBlock]⟩
    subst hW3 hbx; exact Blk.new w2 _ _
  have b3 : Below w2.heap.size w2 W3 := by subst hW3; exact (Below.refl _ _).alloc (Nat.le_refl _) _
  rw [hW3, hbx]
  obtain ⟨n, hn⟩ : ∃ n, qN m S p = n := ⟨_, rfl⟩
  obtain ⟨nE, hnE⟩ : ∃ x, namK m S p m e = x := ⟨_, rfl⟩
  have HNN := Lib.hid hn
  have HNE := Lib.hid hnE
  have HCA := Lib.hid (fun i (hi : i < n) => cls_at (g := gC) R HPI.out HCE.out (show i < qN m S p by omega))
  rw [hn] at n1 nm hcap k3 ⊢
  rw [hnE] at k3 ⊢
  have G3 := Lib.hid k3
  have HBX := Lib.hid hbx
  have n256 : n * n ≤ 256 := Nat.le_trans (Nat.mul_le_mul (Nat.le_trans nm hm') (Nat.le_trans nm hm')) (by omega)
  have s3 : w.heap.size + 1 < bx := by omega
  have gNb : gN < bx := by omega
  have gCb : gC < bx := by omega
  have l3 := b3.size
  -- what holds of a world that differs from this one behind bx
  have TW := Lib.hid (show ∀ x, Below bx W3 x → Below bx w2 x from fun x hx => by rw [← hbx] at hx ⊢; exact b3.trans hx)
  have TR := Lib.hid (show ∀ x, Below bx W3 x → RingAt x m e b1 o1 la ca b2 o2 lb cb S P from fun x hx => HR0.out.next (B2.out.trans ((TW.out x hx).mono (by omega))))
  have TB := Lib.hid (show ∀ x, Below bx W3 x → Below w.heap.size w x from fun x hx => B2.out.trans ((TW.out x hx).mono (by omega)))
  have TC := Lib.hid (show ∀ x, Below bx W3 x → ∀ b i, b < bx → x.cell? ⟨b, i, none⟩ = w2.cell? ⟨b, i, none⟩ from fun x hx b i hb => (TW.out x hx).cell (p := ⟨b, i, none⟩) hb)
  have TK := Lib.hid (show ∀ x, Below bx W3 x → Blk x w.heap.size 25 #[.int .i64 m, .int .i64 e, .slice (some ⟨b1, o1, none⟩) la ca, .slice (some ⟨b2, o2, none⟩) lb cb] from fun x hx => ((TW.out x hx).block w.heap.size (by omega)).trans K2.out)
  have TN := Lib.hid (show ∀ x, Below bx W3 x → Blk x gN 3 (rowP m (namK m S p m)) from fun x hx => ((TW.out x hx).block gN gNb).trans KN.out)
  have TQ := Lib.hid (show ∀ x, Below bx W3 x → Blk x (w.heap.size + 1) 25 #[.int .i64 0, .int .i64 0, .slice none 0 0, .slice none 0 0] from fun x hx => ((TW.out x hx).block (w.heap.size + 1) s3).trans KR2.out)
  clear c0 c1 c2 c3 hce k3 b3 hW3 hn hnE hbx
  go_loopg [30] n (fun g vi wr => ∃ (i : Nat) (v2 v3 : Value), i ≤ n ∧ n ≤ i + g ∧ vi = .int .i64 i ∧ Grow bx wr bx n nE v2 v3 (i * n) (i * n) (numL (i * n) (quoF m S p S)) (numL (i * n) (quoF m S p P)) ∧ Below bx W3 wr)
  case atStart => exact ⟨0, _, _, Nat.zero_le _, by omega, rfl, by rw [Nat.zero_mul]; exact G3.out, Below.refl _ _⟩
  case round =>
    obtain ⟨i, v2, v3, hi, hg, rfl, hgr, hb⟩ := hrel
    have GW := Lib.hid hgr
    have BW := Lib.hid hb
    clear hgr hb
    by_cases hlt : i < n
    · obtain ⟨ba, oa, la', ca', ha1, ha2, ha3, ha4, ha5⟩ := HCA.out i hlt
      have hcw : wr.cell? ⟨gC, i, none⟩ = some (.slice (some ⟨ba, oa, none⟩) la' ca') := (TC.out _ BW.out gC i gCb).trans ha1
      have HA5 := Lib.hid ha5
      have hba : ba < bx := by rw [← HBX.out]; exact ha4
      clear ha1 ha5 ha4
      go_wp2
      obtain ⟨gk0, hgk0⟩ : ∃ g1, g1 = gk := ⟨_, rfl⟩
      clear hcw
      go_loopg [36] n (fun g2 vi wr => ∃ (j : Nat) (v2 v3 : Value), j ≤ n ∧ n ≤ j + g2 ∧ vi = .int .i64 j ∧ Grow bx wr bx n nE v2 v3 (i * n + j) (i * n + j) (numL (i * n + j) (quoF m S p S)) (numL (i * n + j) (quoF m S p P)) ∧ Below bx W3 wr)
      case atStart => exact ⟨0, v2, v3, Nat.zero_le _, by omega, rfl, GW.out, BW.out⟩
      case round =>
        obtain ⟨j, u2, u3, hj, hg2, rfl, hgr, hb⟩ := hrel
        have GX := Lib.hid hgr
        have BX := Lib.hid hb
        clear hgr hb
        by_cases hlt2 : j < n
        · obtain ⟨bb, ob, lb', cb', hb1, hb2, hb3, hb4, hb5⟩ := HCA.out j hlt2
          have hcw : wr.cell? ⟨gC, j, none⟩ = some (.slice (some ⟨bb, ob, none⟩) lb' cb') := (TC.out _ BX.out gC j gCb).trans hb1
          have HB5 := Lib.hid hb5
          have hbb : bb < bx := by rw [← HBX.out]; exact hb4
          clear hb1 hb5 hb4
          go_wp2_with (fail)
          have hli : leaN m S p i < m := lea_lt (by rw [HNN.out]; exact hlt)
          have hlj : leaN m S p j < m := lea_lt (by rw [HNN.out]; exact hlt2)
          have z1 : (0 : Int) < (la' : Int) := by omega
          have z2 : (0 : Int) < (lb' : Int) := by omega
          have hk256 : i * n + j ≤ 1000 := by
            have h1 : i * n ≤ n * n := Nat.mul_le_mul_right n hi
            omega
          clear hcw

          obtain ⟨rowS, hrowS⟩ : ∃ row, u2.ownBlock = row := ⟨_, rfl⟩
          obtain ⟨cS, hcS⟩ : ∃ c, S (leaN m S p i * m + leaN m S p j) = c := ⟨_, rfl⟩
          have hcmS : cS < m := by rw [← hcS]; exact R.sc hli hlj
          have czS : (0 : Int) ≤ (cS : Int) := by omega
          have cmS : (cS : Int) < (m : Int) := by omega
          have HCVS := Lib.hid (show quoF m S p S (i * n + j) = namK m S p m cS by rw [← hcS, ← HNN.out]; exact quo_at (by rw [HNN.out]; exact hlt2))
          have HCS := Lib.hid hcS
          have HRWS := Lib.hid hrowS
          have hrbS : some bx ≠ rowS := fun e => GX.out.n2 (by rw [hrowS, e])
          clear hcS hrowS
          refine wp_region_makersR (ApR rowS bx (i * n + j) (quoF m S p S)) (fun _ _ => True) 16 apMk (ApPhi rowS bx wr.heap.size (i * n + j) (quoF m S p S) cS) (ApSh cS) (ap0 cS) probe (by kernel_rfl) (by kernel_rfl) ApR.refl ApR.trans (fun _ _ _ => trivial) (ApR.drew _) trivial ApPhi_stable (fun i v x _ => ApSh_of i v x) (fun i _ => ApSh_zero i) ?_
          intro V hV vs hvs
          have e10 := (hvs 10 rfl).p10 rfl
          obtain ⟨g13, e13⟩ := (hvs 13 rfl).p13 rfl
          obtain ⟨A14, l14, q14S, e14⟩ := (hvs 14 rfl).p14 rfl
          obtain ⟨RR, hRR⟩ : ∃ RR, ApR rowS bx (i * n + j) (quoF m S p S) = RR := ⟨_, rfl⟩
          have HRR := Lib.hid hRR
          have KG := Lib.hid (show ∀ x, extCR RR V x → ApR rowS bx (i * n + j) (quoF m S p S) wr x from fun x ⟨u, hu⟩ => by
            rw [hu]
            have h : RR V (extR RR V u) := u.rel
            exact ApR.trans _ _ _ hV (Eq.mpr (congrFun (congrFun HRR.out V) _) h))
          have KB := Lib.hid (show ∀ x, extCR RR V x → Below bx W3 x from fun x hx => BX.out.grown (KG.out x hx).1 (Nat.le_of_lt GX.out.box.lt) (fun k hk => (GX.out.o2.lt k (HRWS.out.trans hk)).1))
          have hRV : RR V V := by rw [← HRR.out]; exact ApR.refl V
          have cW : ∃ x, extCR RR V x := ⟨V, extCR_of hRV⟩
          have iRV : Nonempty (ExtR RR V) := ⟨⟨V, hRV⟩⟩
          rw [hRR]
          have ff : ∀ u : ExtR RR V, (extR RR V u).cell? ⟨bx, 2, none⟩ = some u2 := fun u => by
            have h1 : Blk (extR RR V u) bx 25 _ := ((KG.out _ ⟨u, rfl⟩).1.block bx GX.out.box.lt hrbS).trans GX.out.box
            have := h1.cell 2
            simpa using this
          have fa : ∀ u : ExtR RR V, (extR RR V u).cell? ⟨ba, oa, none⟩ = some (.int .i64 (leaN m S p i : Int)) := fun u => (TC.out _ (KB.out _ ⟨u, rfl⟩) ba oa hba).trans HA5.out
          have fb : ∀ u : ExtR RR V, (extR RR V u).cell? ⟨bb, ob, none⟩ = some (.int .i64 (leaN m S p j : Int)) := fun u => (TC.out _ (KB.out _ ⟨u, rfl⟩) bb ob hbb).trans HB5.out
          have fn : ∀ u : ExtR RR V, (extR RR V u).cell? ⟨gN, cS, none⟩ = some (.int .i64 (namK m S p m cS : Int)) := fun u => ((TN.out _ (KB.out _ ⟨u, rfl⟩)).cell cS).trans (rowP_get hcmS)
          clear hV hRR
          simp only [List.take_succ_cons, List.take_zero, List.drop_succ_cons, List.drop_zero]
          refine wpV_quietR cW 10 0 _ _ (by decide) (by decide) (fun o ho => plain_noEnter (List.all_eq_true.1 (by rfl) o ho)) ?_
          simp only [List.take_succ_cons, List.take_zero, List.drop_succ_cons, List.drop_zero]
          repeat (first
            | (refine wpQuiet_load_row rfl 25 (.tmp 2) rfl w.heap.size rfl _ #[.int .i64 m, .int .i64 e, .slice (some ⟨b1, o1, none⟩) la ca, .slice (some ⟨b2, o2, none⟩) lb cb] _ (fun x hx => TK.out x (KB.out x hx)) Tryz.underlying25 rfl (by kernel_rfl) ?_; go_simp)
            | (go_big_quiet_step (fail)))
          refine wpQuiet_nil ?_
          refine wpV_make_R rfl rfl (fun x fu hx _ _ => ?_) ?_
          · unfold makesAtR
            go_simp
            refine ⟨rfl, (l1Add_any (leaN m S p i) (leaN m S p j) m e b1 o1 la ca b2 o2 lb cb S P x (TR.out x (KB.out x hx)) hli hlj).mono ?_⟩
            rintro _ x' ⟨rfl, hb⟩
            exact ⟨_, rfl, by rw [← HRR.out]; exact ApR.of_below hb, trivial, ⟨fun _ => by rw [HCS.out], fun e => absurd e (by decide), fun e => absurd e (by decide)⟩⟩
          rw [e10]
          go_simp
          refine wpV_quietR cW 2 _ _ _ (by decide) (by decide) (fun o ho => plain_noEnter (List.all_eq_true.1 (by rfl) o ho)) ?_
          simp only [List.take_succ_cons, List.take_zero, List.drop_succ_cons, List.drop_zero]
          repeat (go_big_quiet_step (fail))
          refine wpQuiet_nil ?_
          refine wpV_make_R rfl rfl (fun x fu hx _ _ => ?_) ?_
          · unfold makesAtR
            go_simp
            have kn : Blk (x.alloc (.cells #[.int .i64 (namK m S p m cS : Int)] 3)) x.heap.size 3 #[.int .i64 (namK m S p m cS : Int)] := Blk.new x _ _
            have kc := kn.cell 0
            refine ⟨by rw [← HRR.out]; exact ApR.of_below ((Below.refl _ _).alloc (Nat.le_refl _) _), trivial, ⟨fun e => absurd e (by decide), fun _ => ⟨_, rfl, fun e => ?_, kn.lt, by rw [HCVS.out]; exact kc⟩, fun e => absurd e (by decide)⟩⟩
            have h1 := (GX.out.o2.lt x.heap.size (by rw [HRWS.out, e])).2
            have h2 := (KG.out x hx).1.size
            omega
          rw [e13]
          go_simp
          refine wpV_make_R rfl rfl (fun x fu hx _ hd => ?_) ?_
          · obtain ⟨g', q1, _, _, q4⟩ := (hd ⟨13, .data⟩ (by simp) rfl rfl).p13 rfl
            rw [e13] at q1
            simp only [Value.slice.injEq, Option.some.injEq, Addr.mk.injEq, and_true] at q1
            subst q1
            rw [← HRR.out]
            exact makesR_mono (makes_app (.tmp 41) (.tmp 53) rfl u2 x rfl rfl ((KG.out x hx).2.2 _ GX.out.o2) HRWS.out q4 (by omega) (Nat.le_trans (Nat.le_of_lt GX.out.box.lt) (KG.out x hx).1.size) (KG.out x hx).1.size) fun v x' h => ⟨fun e => absurd e (by decide), fun e => absurd e (by decide), fun _ => h⟩
          rw [e14]
          go_simp
          refine wpV_quietR cW 1 _ _ _ (by decide) (by decide) (fun o ho => plain_noEnter (List.all_eq_true.1 (by rfl) o ho)) ?_
          simp only [List.take_succ_cons, List.take_zero, List.drop_succ_cons, List.drop_zero]
          repeat (go_big_quiet_step (fail))
          refine wpQuiet_nil ?_
          refine wpV_nilR ?_
          intro w3S hR3 hf
          rw [← HRR.out] at hR3
          have h14 := (hf 14 (by decide) rfl).p14 rfl
          rw [e14] at h14
          clear ff fa fb fn hf hvs
          rcases h14 with ⟨ho14, hat14⟩
          rcases ho14.2 with ⟨_, h0⟩ | ⟨ggS, _, _, ea, _⟩
          · omega
          simp only [Value.slice.injEq] at ea
          obtain ⟨rfl, rfl, rfl⟩ := ea
          have hp1 : w3S.ownsRow bx 3 1 (.slice (some ⟨ggS, 0, none⟩) (i * n + j + 1) q14S) (i * n + j + 1) ((numL (i * n + j) (quoF m S p S)).map (.int .i64) ++ [.int .i64 (quoF m S p S (i * n + j) : Int)]) := by
            have := ho14
            unfold OwnK at this
            rw [numV_succ] at this
            exact this
          have hp2 : u2.ownBlock = some ggS ∨ wr.heap.size ≤ ggS := by
            rcases hat14 with h | ⟨g', h, hge⟩
            · exact .inl (HRWS.out.trans h.symm)
            · simp only [Value.ownBlock, Option.some.injEq] at h
              exact .inr (by omega)
          have hb3 : Blk w3S bx 25 _ := (hR3.1.block bx GX.out.box.lt hrbS).trans GX.out.box
          have kc3 := hb3.cell 2
          have kf3 := hb3.frozen 2
          simp at kc3
          obtain ⟨hgr, hbb3⟩ := GX.out.set2 hp1 (by rw [HRWS.out]; exact hR3.1) hp2
          rw [← numL_succ] at hgr
          have GS := Lib.hid hgr
          have BS := Lib.hid (BX.out.trans hbb3)
          clear hR3 ho14 hat14 hp1 hp2 hb3 hgr hbb3
          go_wp2_with (fail)
          obtain ⟨wS, hwS⟩ : ∃ x, w3S.setCell ⟨bx, 2, none⟩ (.slice (some ⟨ggS, 0, none⟩) (i * n + j + 1) q14S) = x := ⟨_, rfl⟩
          rw [hwS] at GS BS ⊢
          have BS2 := BS
          clear hwS kc3 kf3

          obtain ⟨rowP, hrowP⟩ : ∃ row, u3.ownBlock = row := ⟨_, rfl⟩
          obtain ⟨cP, hcP⟩ : ∃ c, P (leaN m S p i * m + leaN m S p j) = c := ⟨_, rfl⟩
          have hcmP : cP < m := by rw [← hcP]; exact R.pc hli hlj
          have czP : (0 : Int) ≤ (cP : Int) := by omega
          have cmP : (cP : Int) < (m : Int) := by omega
          have HCVP := Lib.hid (show quoF m S p P (i * n + j) = namK m S p m cP by rw [← hcP, ← HNN.out]; exact quo_at (by rw [HNN.out]; exact hlt2))
          have HCP := Lib.hid hcP
          have HRWP := Lib.hid hrowP
          have hrbP : some bx ≠ rowP := fun e => GS.out.n3 (by rw [hrowP, e])
          clear hcP hrowP
          refine wp_region_makersR (ApR rowP bx (i * n + j) (quoF m S p P)) (fun _ _ => True) 16 apMk (ApPhi rowP bx wS.heap.size (i * n + j) (quoF m S p P) cP) (ApSh cP) (ap0 cP) probe (by kernel_rfl) (by kernel_rfl) ApR.refl ApR.trans (fun _ _ _ => trivial) (ApR.drew _) trivial ApPhi_stable (fun i v x _ => ApSh_of i v x) (fun i _ => ApSh_zero i) ?_
          intro V hV vs hvs
          have e10 := (hvs 10 rfl).p10 rfl
          obtain ⟨g13, e13⟩ := (hvs 13 rfl).p13 rfl
          obtain ⟨A14, l14, q14P, e14⟩ := (hvs 14 rfl).p14 rfl
          obtain ⟨RR, hRR⟩ : ∃ RR, ApR rowP bx (i * n + j) (quoF m S p P) = RR := ⟨_, rfl⟩
          have HRR := Lib.hid hRR
          have KG := Lib.hid (show ∀ x, extCR RR V x → ApR rowP bx (i * n + j) (quoF m S p P) wS x from fun x ⟨u, hu⟩ => by
            rw [hu]
            have h : RR V (extR RR V u) := u.rel
            exact ApR.trans _ _ _ hV (Eq.mpr (congrFun (congrFun HRR.out V) _) h))
          have KB := Lib.hid (show ∀ x, extCR RR V x → Below bx W3 x from fun x hx => BS2.out.grown (KG.out x hx).1 (Nat.le_of_lt GS.out.box.lt) (fun k hk => (GS.out.o3.lt k (HRWP.out.trans hk)).1))
          have hRV : RR V V := by rw [← HRR.out]; exact ApR.refl V
          have cW : ∃ x, extCR RR V x := ⟨V, extCR_of hRV⟩
          have iRV : Nonempty (ExtR RR V) := ⟨⟨V, hRV⟩⟩
          rw [hRR]
          have ff : ∀ u : ExtR RR V, (extR RR V u).cell? ⟨bx, 3, none⟩ = some u3 := fun u => by
            have h1 : Blk (extR RR V u) bx 25 _ := ((KG.out _ ⟨u, rfl⟩).1.block bx GS.out.box.lt hrbP).trans GS.out.box
            have := h1.cell 3
            simpa using this
          have fa : ∀ u : ExtR RR V, (extR RR V u).cell? ⟨ba, oa, none⟩ = some (.int .i64 (leaN m S p i : Int)) := fun u => (TC.out _ (KB.out _ ⟨u, rfl⟩) ba oa hba).trans HA5.out
          have fb : ∀ u : ExtR RR V, (extR RR V u).cell? ⟨bb, ob, none⟩ = some (.int .i64 (leaN m S p j : Int)) := fun u => (TC.out _ (KB.out _ ⟨u, rfl⟩) bb ob hbb).trans HB5.out
          have fn : ∀ u : ExtR RR V, (extR RR V u).cell? ⟨gN, cP, none⟩ = some (.int .i64 (namK m S p m cP : Int)) := fun u => ((TN.out _ (KB.out _ ⟨u, rfl⟩)).cell cP).trans (rowP_get hcmP)
          clear hV hRR
          simp only [List.take_succ_cons, List.take_zero, List.drop_succ_cons, List.drop_zero]
          refine wpV_quietR cW 10 0 _ _ (by decide) (by decide) (fun o ho => plain_noEnter (List.all_eq_true.1 (by rfl) o ho)) ?_
          simp only [List.take_succ_cons, List.take_zero, List.drop_succ_cons, List.drop_zero]
          repeat (first
            | (refine wpQuiet_load_row rfl 25 (.tmp 2) rfl w.heap.size rfl _ #[.int .i64 m, .int .i64 e, .slice (some ⟨b1, o1, none⟩) la ca, .slice (some ⟨b2, o2, none⟩) lb cb] _ (fun x hx => TK.out x (KB.out x hx)) Tryz.underlying25 rfl (by kernel_rfl) ?_; go_simp)
            | (go_big_quiet_step (fail)))
          refine wpQuiet_nil ?_
          refine wpV_make_R rfl rfl (fun x fu hx _ _ => ?_) ?_
          · unfold makesAtR
            go_simp
            refine ⟨rfl, (l1Mul_any (leaN m S p i) (leaN m S p j) m e b1 o1 la ca b2 o2 lb cb S P x (TR.out x (KB.out x hx)) hli hlj).mono ?_⟩
            rintro _ x' ⟨rfl, hb⟩
            exact ⟨_, rfl, by rw [← HRR.out]; exact ApR.of_below hb, trivial, ⟨fun _ => by rw [HCP.out], fun e => absurd e (by decide), fun e => absurd e (by decide)⟩⟩
          rw [e10]
          go_simp
          refine wpV_quietR cW 2 _ _ _ (by decide) (by decide) (fun o ho => plain_noEnter (List.all_eq_true.1 (by rfl) o ho)) ?_
          simp only [List.take_succ_cons, List.take_zero, List.drop_succ_cons, List.drop_zero]
          repeat (go_big_quiet_step (fail))
          refine wpQuiet_nil ?_
          refine wpV_make_R rfl rfl (fun x fu hx _ _ => ?_) ?_
          · unfold makesAtR
            go_simp
            have kn : Blk (x.alloc (.cells #[.int .i64 (namK m S p m cP : Int)] 3)) x.heap.size 3 #[.int .i64 (namK m S p m cP : Int)] := Blk.new x _ _
            have kc := kn.cell 0
            refine ⟨by rw [← HRR.out]; exact ApR.of_below ((Below.refl _ _).alloc (Nat.le_refl _) _), trivial, ⟨fun e => absurd e (by decide), fun _ => ⟨_, rfl, fun e => ?_, kn.lt, by rw [HCVP.out]; exact kc⟩, fun e => absurd e (by decide)⟩⟩
            have h1 := (GS.out.o3.lt x.heap.size (by rw [HRWP.out, e])).2
            have h2 := (KG.out x hx).1.size
            omega
          rw [e13]
          go_simp
          refine wpV_make_R rfl rfl (fun x fu hx _ hd => ?_) ?_
          · obtain ⟨g', q1, _, _, q4⟩ := (hd ⟨13, .data⟩ (by simp) rfl rfl).p13 rfl
            rw [e13] at q1
            simp only [Value.slice.injEq, Option.some.injEq, Addr.mk.injEq, and_true] at q1
            subst q1
            rw [← HRR.out]
            exact makesR_mono (makes_app (.tmp 57) (.tmp 69) rfl u3 x rfl rfl ((KG.out x hx).2.2 _ GS.out.o3) HRWP.out q4 (by omega) (Nat.le_trans (Nat.le_of_lt GS.out.box.lt) (KG.out x hx).1.size) (KG.out x hx).1.size) fun v x' h => ⟨fun e => absurd e (by decide), fun e => absurd e (by decide), fun _ => h⟩
          rw [e14]
          go_simp
          refine wpV_quietR cW 1 _ _ _ (by decide) (by decide) (fun o ho => plain_noEnter (List.all_eq_true.1 (by rfl) o ho)) ?_
          simp only [List.take_succ_cons, List.take_zero, List.drop_succ_cons, List.drop_zero]
          repeat (go_big_quiet_step (fail))
          refine wpQuiet_nil ?_
          refine wpV_nilR ?_
          intro w3P hR3 hf
          rw [← HRR.out] at hR3
          have h14 := (hf 14 (by decide) rfl).p14 rfl
          rw [e14] at h14
          clear ff fa fb fn hf hvs
          rcases h14 with ⟨ho14, hat14⟩
          rcases ho14.2 with ⟨_, h0⟩ | ⟨ggP, _, _, ea, _⟩
          · omega
          simp only [Value.slice.injEq] at ea
          obtain ⟨rfl, rfl, rfl⟩ := ea
          have hp1 : w3P.ownsRow bx 3 1 (.slice (some ⟨ggP, 0, none⟩) (i * n + j + 1) q14P) (i * n + j + 1) ((numL (i * n + j) (quoF m S p P)).map (.int .i64) ++ [.int .i64 (quoF m S p P (i * n + j) : Int)]) := by
            have := ho14
            unfold OwnK at this
            rw [numV_succ] at this
            exact this
          have hp2 : u3.ownBlock = some ggP ∨ wS.heap.size ≤ ggP := by
            rcases hat14 with h | ⟨g', h, hge⟩
            · exact .inl (HRWP.out.trans h.symm)
            · simp only [Value.ownBlock, Option.some.injEq] at h
              exact .inr (by omega)
          have hb3 : Blk w3P bx 25 _ := (hR3.1.block bx GS.out.box.lt hrbP).trans GS.out.box
          have kc3 := hb3.cell 3
          have kf3 := hb3.frozen 3
          simp at kc3
          obtain ⟨hgr, hbb3⟩ := GS.out.set3 hp1 (by rw [HRWP.out]; exact hR3.1) hp2
          rw [← numL_succ] at hgr
          have GP := Lib.hid hgr
          have BP := Lib.hid (BS2.out.trans hbb3)
          clear hR3 ho14 hat14 hp1 hp2 hb3 hgr hbb3
          go_wp2
          go_roundg (n - (j + 1))
          case measure => omega
          case rel => exact ⟨j + 1, _, _, by omega, by omega, by go_num, GP.out, BP.out⟩
        · have hjn : j = n := by omega
          subst hjn
          go_wp2
          go_roundg (j - (i + 1))
          case measure => omega
          case rel => exact ⟨i + 1, u2, u3, by omega, by omega, by go_num, by rw [Nat.succ_mul]; exact GX.out, BX.out⟩
    · have hin : i = n := by omega
      subst hin
      have hpos : 0 < i * i := Nat.mul_pos n1 n1
      obtain ⟨g2, cap2, e2, _, _⟩ := GW.out.o2.form hpos
      obtain ⟨g3, cap3, e3, _, _⟩ := GW.out.o3.form hpos
      subst e2 e3
      have ZR := Lib.hid (TQ.out _ BW.out)
      have NR := Lib.hid (TN.out _ BW.out)
      have c0 := GW.out.box.cell 0
      have c1 := GW.out.box.cell 1
      have c2 := GW.out.box.cell 2
      have c3 := GW.out.box.cell 3
      have d0 := ZR.out.cell 0
      have d1 := ZR.out.cell 1
      have d2 := ZR.out.cell 2
      have d3 := ZR.out.cell 3
      have f0 := ZR.out.frozen 0
      have f1 := ZR.out.frozen 1
      have f2 := ZR.out.frozen 2
      have f3 := ZR.out.frozen 3
      simp at c0 c1 c2 c3 d0 d1 d2 d3
      go_wp2
      refine bodyPost_ret (v := .tuple #[.agg #[.int .i64 (i : Int), .int .i64 (nE : Int), .slice (some ⟨g2, 0, none⟩) (i * i) cap2, .slice (some ⟨g3, 0, none⟩) (i * i) cap3], .slice (some ⟨gN, 0, none⟩) m m]) ?_ rfl ⟨_, gN, rfl, ?_, ?_, ?_, ?_⟩
      · exact results_cell_flag Tryz.results74 _ _ (w.heap.size + 1) 25 _ _ _ rfl rfl (store4_blk ZR.out) Tryz.underlying25 rfl (by kernel_rfl)
      · rw [HNN.out, HNE.out]; exact (GW.out.result ZR.out (by decide)).mono (show w.heap.size ≤ bx by omega)
      · omega
      · have hne : gN ≠ w.heap.size + 1 := by omega
        exact (((NR.out.far (p := ⟨w.heap.size + 1, 0, none⟩) hne _).far (p := ⟨w.heap.size + 1, 1, none⟩) hne _).far (p := ⟨w.heap.size + 1, 2, none⟩) hne _).far (p := ⟨w.heap.size + 1, 3, none⟩) hne _
      · exact store4_below (TB.out _ BW.out) (Nat.le_succ _)

end Go.Proofs.YtajoimopahibcaaGreat



/- QuotientRing of the reading side. -/
namespace Go.Proofs.YtajoimopahibcaaGreat
open Go.RowKit Go.Shelf
set_option maxRecDepth 100000

/-- What three results read, the first of them in a box. -/
theorem results_cell_tmp2 {P : Program} {fn : Func} {p u s : Tmp} {ty : TypeId} (h : fn.results = #[.cell p ty, .tmp u, .tmp s]) (tmps : Array Value) (w : World) (g : Nat) (t : TypeId) (cs : Array Value) (d : TypeDesc) (b c : Value)
    (hp : tmps.getD p undef = .pointer (some ⟨g, 0, none⟩)) (hb : tmps.getD u undef = b) (hc : tmps.getD s undef = c) (hg : Blk w g t cs)
    (hu : P.underlying ty = some d) (hd : (match d with | .struct _ | .array _ _ => true | _ => false) = true) (hi : (P.info? ty).map (·.size) = some cs.size) :
    (results fn tmps).run P w = .ok (.tuple #[.agg cs, b, c]) w := by
  have e : (results fn tmps).run P w = ((asAddr (tmps.getD p undef)).run P w).andThen fun a w₁ => ((loadVar ty a).run P w₁).andThen fun v w₂ => .ok (.tuple #[v, tmps.getD u undef, tmps.getD s undef]) w₂ := by
    simp only [results, h]
    simp [Sem.run_bind, Result.andThen]
  rw [e, hp, hb, hc]
  simp [asAddr, run_loadVar_row w g t ty cs (0, 0) d hg hu hd hi]

set_option maxHeartbeats 8000000 in
theorem squo_no (n o : Int) (A B C : Option Addr) (la ca lb cb len cap : Nat) (X Y L : List Int) (w : World) (ht : isIdB n o X Y L = false) (hX : Ints w w.heap.size A la X) (hY : Ints w w.heap.size B lb Y) (hL : Ints w w.heap.size C len L) (hla : la ≤ 9223372036854775807) (hlb : lb ≤ 9223372036854775807) (hlen : len ≤ 9223372036854775807) (hca : la ≤ ca) (hcb : lb ≤ cb) :
    Calls Tryz.prog 25 #[.agg #[.int .i64 n, .int .i64 o, .slice A la ca, .slice B lb cb], .slice C len cap] w fun e' w' => (∃ g, e' = .returned (.tuple #[.agg #[.int .i64 0, .int .i64 0, .slice none 0 0, .slice none 0 0], .slice (some ⟨g, 0, none⟩) 0 0, .bool false]) ∧ w.heap.size ≤ g ∧ g < w'.heap.size) ∧ Below w.heap.size w w' := by
  obtain ⟨W, hW⟩ : ∃ W, (w.alloc (.cells #[.int .i64 n, .int .i64 o, .slice A la ca, .slice B lb cb] 25)).alloc (.cells #[.int .i64 0, .int .i64 0, .slice none 0 0, .slice none 0 0] 25) = W := ⟨_, rfl⟩
  have k0 : Blk W w.heap.size 25 #[.int .i64 n, .int .i64 o, .slice A la ca, .slice B lb cb] := by
    subst hW; exact (Blk.new w _ _).alloc _
  have k1 : Blk W (w.heap.size + 1) 25 #[.int .i64 0, .int .i64 0, .slice none 0 0, .slice none 0 0] := by
    subst hW
    have := Blk.new (w.alloc (.cells #[.int .i64 n, .int .i64 o, .slice A la ca, .slice B lb cb] 25)) 25 #[.int .i64 0, .int .i64 0, .slice none 0 0, .slice none 0 0]
    rw [World.size_alloc] at this
    exact this
  have b0 : Below w.heap.size w W := by
    subst hW; exact ((Below.refl _ _).alloc (Nat.le_refl _) _).alloc (by simp) _
  obtain ⟨c0, c1, c2, c3⟩ := blk4 k0
  have HX := Lib.hid (hX.next b0)
  have HY := Lib.hid (hY.next b0)
  have HL := Lib.hid (hL.next b0)
  have B0 := Lib.hid b0
  have HW := Lib.hid hW
  have K1 := Lib.hid k1
  have HT := Lib.hid ht
  clear hX hY hL b0 hW k0 k1 ht
  go_enter Tryz.func25, Tryz.ntmps25
  go_wp2_with (fail)
  rw [HW.out]
  refine (sisId_val HT.out HX.out HY.out HL.out hla hlb hlen hca hcb).mono ?_
  rintro e1 w1 ⟨rfl, hb1⟩
  have B1 := Lib.hid (below_step B0.out hb1)
  have KR := Lib.hid (K1.out.next hb1)
  have lR := KR.out.lt
  have sz := B1.out.size
  clear hb1 c0 c1 c2 c3
  go_upto_region 2 with (fail)
  have d0 := KR.out.cell 0
  have d1 := KR.out.cell 1
  have d2 := KR.out.cell 2
  have d3 := KR.out.cell 3
  have f0 := KR.out.frozen 0
  have f1 := KR.out.frozen 1
  have f2 := KR.out.frozen 2
  have f3 := KR.out.frozen 3
  simp only [List.getElem?_toArray, List.getElem?_cons_zero, List.getElem?_cons_succ] at d0 d1 d2 d3
  have lR2 : w.heap.size + 1 < w1.heap.size + 1 := by omega
  have nR : ¬ w1.heap.size = w.heap.size + 1 := by omega
  have nR2 : ¬ w.heap.size + 1 = w1.heap.size := by omega
  go_wp2
  refine bodyPost_ret (v := .tuple #[.agg #[.int .i64 0, .int .i64 0, .slice none 0 0, .slice none 0 0], .slice (some ⟨w1.heap.size, 0, none⟩) 0 0, .bool false]) ?_ rfl ⟨⟨_, rfl, sz, ?_⟩, ?_⟩
  · exact results_cell_tmp2 Tryz.results25 _ _ (w.heap.size + 1) 25 _ _ _ _ rfl rfl rfl ((store4_blk KR.out).alloc _) Tryz.underlying25 rfl (by kernel_rfl)
  · simp
  · exact (store4_below B1.out (Nat.le_succ _)).alloc (store4_below B1.out (Nat.le_succ _)).size _

set_option maxHeartbeats 8000000 in
theorem squo_yes (C : Option Addr) (len cap : Nat) (X Y L : List Int) (p : Nat → Bool) (m e b1 o1 la ca b2 o2 lb cb : Nat) (w : World) (hr : RingAt w m e b1 o1 la ca b2 o2 lb cb (tabOf X) (tabOf Y)) (ht : isIdB m e X Y L = true) (R : RTab m (tabOf X) (tabOf Y) e) (hp : Idl m (tabOf X) (tabOf Y) p) (hpL : L = lstP m p)
    (hX : Ints w w.heap.size (some ⟨b1, o1, none⟩) la X) (hY : Ints w w.heap.size (some ⟨b2, o2, none⟩) lb Y) (hL : Ints w w.heap.size C len L) (hla : la ≤ 9223372036854775807) (hlb : lb ≤ 9223372036854775807) (hlen : len ≤ 9223372036854775807) (hca : la ≤ ca) (hcb : lb ≤ cb) :
    Calls Tryz.prog 25 #[.agg #[.int .i64 m, .int .i64 e, .slice (some ⟨b1, o1, none⟩) la ca, .slice (some ⟨b2, o2, none⟩) lb cb], .slice C len cap] w fun e' w' => ∃ v g, e' = .returned (.tuple #[v, .slice (some ⟨g, 0, none⟩) m m, .bool true]) ∧ NewRing w.heap.size w' v (qN m (tabOf X) p) (namK m (tabOf X) p m e) (qN m (tabOf X) p * qN m (tabOf X) p) (numL (qN m (tabOf X) p * qN m (tabOf X) p) (quoF m (tabOf X) p (tabOf X))) (numL (qN m (tabOf X) p * qN m (tabOf X) p) (quoF m (tabOf X) p (tabOf Y))) ∧ w.heap.size ≤ g ∧ Blk w' g 3 (rowP m (namK m (tabOf X) p m)) ∧ Below w.heap.size w w' := by
  obtain ⟨W, hW⟩ : ∃ W, (w.alloc (.cells #[.int .i64 m, .int .i64 e, .slice (some ⟨b1, o1, none⟩) la ca, .slice (some ⟨b2, o2, none⟩) lb cb] 25)).alloc (.cells #[.int .i64 0, .int .i64 0, .slice none 0 0, .slice none 0 0] 25) = W := ⟨_, rfl⟩
  have k0 : Blk W w.heap.size 25 #[.int .i64 m, .int .i64 e, .slice (some ⟨b1, o1, none⟩) la ca, .slice (some ⟨b2, o2, none⟩) lb cb] := by
    subst hW; exact (Blk.new w _ _).alloc _
  have k1 : Blk W (w.heap.size + 1) 25 #[.int .i64 0, .int .i64 0, .slice none 0 0, .slice none 0 0] := by
    subst hW
    have := Blk.new (w.alloc (.cells #[.int .i64 m, .int .i64 e, .slice (some ⟨b1, o1, none⟩) la ca, .slice (some ⟨b2, o2, none⟩) lb cb] 25)) 25 #[.int .i64 0, .int .i64 0, .slice none 0 0, .slice none 0 0]
    rw [World.size_alloc] at this
    exact this
  have b0 : Below w.heap.size w W := by
    subst hW; exact ((Below.refl _ _).alloc (Nat.le_refl _) _).alloc (by simp) _
  obtain ⟨c0, c1, c2, c3⟩ := blk4 k0
  have HX := Lib.hid (hX.next b0)
  have HY := Lib.hid (hY.next b0)
  have HL := Lib.hid (hL.next b0)
  have HL2 := Lib.hid (show Ints W W.heap.size C len (lstP m p) by rw [← hpL]; exact hL.next b0)
  have HR0 := Lib.hid (hr.next b0)
  have HPI := Lib.hid hp
  have B0 := Lib.hid b0
  have HW := Lib.hid hW
  have K0 := Lib.hid k0
  have K1 := Lib.hid k1
  have HT := Lib.hid ht
  have n1 := R.cnt_pos hp
  have nm : qN m (tabOf X) p ≤ m := cnt_le
  have hm' := hr.hm'
  clear hX hY hL b0 hW k0 k1 ht hr hp hpL
  go_enter Tryz.func25, Tryz.ntmps25
  go_wp2_with (fail)
  rw [HW.out]
  refine (sisId_val HT.out HX.out HY.out HL.out hla hlb hlen hca hcb).mono ?_
  rintro e1 w1 ⟨rfl, hb1⟩
  have B1 := Lib.hid (below_step B0.out hb1)
  have KR := Lib.hid (K1.out.next hb1)
  obtain ⟨d0, d1, d2, d3⟩ := blk4 (K0.out.next hb1)
  have RV := Lib.hid (HR0.out.next hb1)
  have IL := Lib.hid (HL2.out.next hb1)
  clear hb1 c0 c1 c2 c3
  go_wp2_with (fail)
  refine (l5Quotient_any C len cap p m e b1 o1 la ca b2 o2 lb cb (tabOf X) (tabOf Y) w1 RV.out R HPI.out IL.out hlen).mono ?_
  rintro e2 w2 ⟨v, g, rfl, hN, hg, hk, hb2⟩
  have hnn : 0 < qN m (tabOf X) p * qN m (tabOf X) p := Nat.mul_pos n1 n1
  obtain ⟨v2, v3, rfl, o2', o3', ap⟩ := hN
  obtain ⟨g2, cap2, rfl, _, _⟩ := o2'.form hnn
  obtain ⟨g3, cap3, rfl, _, _⟩ := o3'.form hnn
  have B2 := Lib.hid (below_step B1.out hb2)
  have KR2 := Lib.hid (KR.out.next hb2)
  have KN := Lib.hid hk
  have O2 := Lib.hid o2'
  have O3 := Lib.hid o3'
  have AP := Lib.hid ap
  have sz := B1.out.size
  have sz2 := B2.out.size
  have lR := KR.out.lt
  have lN := hk.lt
  clear hb2 hk o2' o3' ap d0 d1 d2 d3
  go_upto_region 4 with (fail)
  obtain ⟨V, hV⟩ : ∃ V, w2.alloc (.cells #[.int .i64 (qN m (tabOf X) p : Int), .int .i64 (namK m (tabOf X) p m e : Int), .slice (some ⟨g2, 0, none⟩) (qN m (tabOf X) p * qN m (tabOf X) p) cap2, .slice (some ⟨g3, 0, none⟩) (qN m (tabOf X) p * qN m (tabOf X) p) cap3] 25) = V := ⟨_, rfl⟩
  have bV : Below w2.heap.size w2 V := by subst hV; exact (Below.refl _ _).alloc (Nat.le_refl _) _
  have kV : Blk V w2.heap.size 25 #[.int .i64 (qN m (tabOf X) p : Int), .int .i64 (namK m (tabOf X) p m e : Int), .slice (some ⟨g2, 0, none⟩) (qN m (tabOf X) p * qN m (tabOf X) p) cap2, .slice (some ⟨g3, 0, none⟩) (qN m (tabOf X) p * qN m (tabOf X) p) cap3] := by subst hV; exact Blk.new w2 _ _
  rw [hV]
  have B3 := Lib.hid (below_step B2.out bV)
  have KR3 := Lib.hid (KR2.out.next bV)
  have KN3 := Lib.hid (KN.out.next bV)
  have P2 := Lib.hid (own_nextK O2.out bV)
  have P3 := Lib.hid (own_nextK O3.out bV)
  have lR2 := KR2.out.lt
  obtain ⟨c0, c1, c2, c3⟩ := blk4 kV
  have d0 := KR3.out.cell 0
  have d1 := KR3.out.cell 1
  have d2 := KR3.out.cell 2
  have d3 := KR3.out.cell 3
  have f0 := KR3.out.frozen 0
  have f1 := KR3.out.frozen 1
  have f2 := KR3.out.frozen 2
  have f3 := KR3.out.frozen 3
  simp at d0 d1 d2 d3
  have hgd : ∀ {v : Value} {k : Nat} {xs : List Value}, V.ownsRow w1.heap.size 3 1 v k xs → v.ownBlock ≠ some (w.heap.size + 1) := fun h e => own_blk_ne h KR3.out (by decide) e.symm
  clear bV kV hV
  go_wp2
  have Q2 := store4_own (v0 := .int .i64 (qN m (tabOf X) p : Int)) (v1 := .int .i64 (namK m (tabOf X) p m e : Int)) (v2 := .slice (some ⟨g2, 0, none⟩) (qN m (tabOf X) p * qN m (tabOf X) p) cap2) (v3 := .slice (some ⟨g3, 0, none⟩) (qN m (tabOf X) p * qN m (tabOf X) p) cap3) P2.out (hgd P2.out)
  have Q3 := store4_own (v0 := .int .i64 (qN m (tabOf X) p : Int)) (v1 := .int .i64 (namK m (tabOf X) p m e : Int)) (v2 := .slice (some ⟨g2, 0, none⟩) (qN m (tabOf X) p * qN m (tabOf X) p) cap2) (v3 := .slice (some ⟨g3, 0, none⟩) (qN m (tabOf X) p * qN m (tabOf X) p) cap3) P3.out (hgd P3.out)
  have hne : g ≠ w.heap.size + 1 := by omega
  refine bodyPost_ret (v := .tuple #[.agg #[.int .i64 (qN m (tabOf X) p : Int), .int .i64 (namK m (tabOf X) p m e : Int), .slice (some ⟨g2, 0, none⟩) (qN m (tabOf X) p * qN m (tabOf X) p) cap2, .slice (some ⟨g3, 0, none⟩) (qN m (tabOf X) p * qN m (tabOf X) p) cap3], .slice (some ⟨g, 0, none⟩) m m, .bool true]) ?_ rfl ⟨_, g, rfl, ⟨_, _, rfl, own_base Q2 (by omega), own_base Q3 (by omega), AP.out⟩, by omega, ?_, ?_⟩
  · exact results_cell_tmp2 Tryz.results25 _ _ (w.heap.size + 1) 25 _ _ _ _ rfl rfl rfl (store4_blk KR3.out) Tryz.underlying25 rfl (by kernel_rfl)
  · exact (((KN3.out.far (p := ⟨w.heap.size + 1, 0, none⟩) hne _).far (p := ⟨w.heap.size + 1, 1, none⟩) hne _).far (p := ⟨w.heap.size + 1, 2, none⟩) hne _).far (p := ⟨w.heap.size + 1, 3, none⟩) hne _
  · exact store4_below B3.out (Nat.le_succ _)

end Go.Proofs.YtajoimopahibcaaGreat



/- PushIdeal of the reading side. -/
namespace Go.Proofs.YtajoimopahibcaaGreat
open Go.RowKit Go.Shelf
set_option maxRecDepth 100000

/-- The classes of the elements of an ideal. -/
noncomputable def imgB (m : Nat) (S : Nat → Nat) (p q : Nat → Bool) : Nat → Bool := memB ((finN (selTo m q m)).map (namK m S p m))
noncomputable def pshL (n o : Int) (X Y L K : List Int) : List Int := if twoI n o X Y L K = true then lstP (qN n.toNat (tabOf X) (setL L)) (imgB n.toNat (tabOf X) (setL L) (setL K)) else []
theorem psh_yes {n o : Int} {X Y L K : List Int} (h : twoI n o X Y L K = true) : pshL n o X Y L K = lstP (qN n.toNat (tabOf X) (setL L)) (imgB n.toNat (tabOf X) (setL L) (setL K)) := if_pos h
theorem psh_no {n o : Int} {X Y L K : List Int} (h : twoI n o X Y L K = false) : pshL n o X Y L K = [] := if_neg (by rw [h]; simp)
theorem memB_none : memB ([] : List Nat) = fun _ => false := funext fun i => by simp [memB]
theorem memB_put {l : List Nat} {a : Nat} : (fun i => memB l i || decide (i = a)) = memB (l ++ [a]) := funext fun i => by simp [memB]

end Go.Proofs.YtajoimopahibcaaGreat

