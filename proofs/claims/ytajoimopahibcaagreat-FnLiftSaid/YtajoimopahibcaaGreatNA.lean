/- Texts of this seat in one: XB XF XG XH XI XJ. -/
import Derived.Test.YtajoimopahibcaaGreatMN
import Derived.Test.YtajoimopahibcaaGreatMB
import Derived.Test.YtajoimopahibcaaGreatMQ
import Derived.Test.YtajoimopahibcaaGreatMV
import Derived.Test.YtajoimopahibcaaGreatMO

/- Plain facts: lists of ints in an order, by length first; the one list of all ideals in that order; a list of ideals into which another one is put. No program in sight. -/
namespace Go.Proofs.YtajoimopahibcaaGreat
open Go.RowKit

/-- How two lists compare, element by element. -/
def lexC : List Int → List Int → Int
  | [], [] => 0
  | [], _ :: _ => -1
  | _ :: _, [] => 1
  | a :: x, b :: y => if a < b then -1 else if b < a then 1 else lexC x y
theorem lexC_swap : ∀ x y : List Int, lexC y x = - lexC x y
  | [], [] => rfl
  | [], _ :: _ => rfl
  | _ :: _, [] => rfl
  | a :: x, b :: y => by
    have ih := lexC_swap x y
    unfold lexC
    (repeat' split) <;> omega
theorem lexC_self : ∀ x : List Int, lexC x x = 0
  | [] => rfl
  | a :: x => by
    have ih := lexC_self x
    unfold lexC
    (repeat' split) <;> omega
theorem lexC_eq : ∀ {x y : List Int}, lexC x y = 0 → x = y
  | [], [], _ => rfl
  | [], _ :: _, h => by simp [lexC] at h
  | _ :: _, [], h => by simp [lexC] at h
  | a :: x, b :: y, h => by
    unfold lexC at h
    by_cases h1 : a < b
    · rw [if_pos h1] at h; omega
    · rw [if_neg h1] at h
      by_cases h2 : b < a
      · rw [if_pos h2] at h; omega
      · rw [if_neg h2] at h
        rw [lexC_eq h, show a = b by omega]
theorem lexC_trans : ∀ {x y z : List Int}, lexC x y < 0 → lexC y z < 0 → lexC x z < 0
  | [], [], _, h, _ => by simp [lexC] at h
  | [], _ :: _, [], _, h => by simp [lexC] at h
  | [], _ :: _, _ :: _, _, _ => by simp [lexC]
  | _ :: _, [], _, h, _ => by simp [lexC] at h
  | _ :: _, _ :: _, [], _, h => by simp [lexC] at h
  | a :: x, b :: y, c :: z, h, k => by
    have ih := lexC_trans (x := x) (y := y) (z := z)
    unfold lexC at h k ⊢
    by_cases h1 : a < b
    · by_cases h2 : b < c
      · rw [if_pos (show a < c by omega)]; omega
      · rw [if_neg h2] at k
        by_cases h3 : c < b
        · rw [if_pos h3] at k; omega
        · rw [if_pos (show a < c by omega)]; omega
    · rw [if_neg h1] at h
      by_cases h2 : b < a
      · rw [if_pos h2] at h; omega
      · rw [if_neg h2] at h
        have e : a = b := by omega
        subst e
        by_cases h3 : a < c
        · rw [if_pos h3]; omega
        · rw [if_neg h3] at k ⊢
          by_cases h4 : c < a
          · rw [if_pos h4] at k; omega
          · rw [if_neg h4] at k ⊢
            exact ih h k
/-- By length first. -/
def cmpL (x y : List Int) : Int := if x.length < y.length then -1 else if y.length < x.length then 1 else lexC x y
theorem cmpL_lex {x y : List Int} : cmpL x y = lexC ((x.length : Int) :: x) ((y.length : Int) :: y) := by
  unfold cmpL
  conv => rhs; unfold lexC
  by_cases h1 : x.length < y.length
  · rw [if_pos h1, if_pos (show (x.length : Int) < y.length by omega)]
  · rw [if_neg h1, if_neg (show ¬ (x.length : Int) < y.length by omega)]
    by_cases h2 : y.length < x.length
    · rw [if_pos h2, if_pos (show (y.length : Int) < x.length by omega)]
    · rw [if_neg h2, if_neg (show ¬ (y.length : Int) < x.length by omega)]
theorem cmpL_swap (x y : List Int) : cmpL y x = - cmpL x y := by rw [cmpL_lex, cmpL_lex, lexC_swap]
theorem cmpL_self (x : List Int) : cmpL x x = 0 := by rw [cmpL_lex, lexC_self]
theorem cmpL_eq {x y : List Int} (h : cmpL x y = 0) : x = y := by
  rw [cmpL_lex] at h
  have := lexC_eq h
  simp at this
  exact this.2
theorem cmpL_trans {x y z : List Int} (h : cmpL x y < 0) (k : cmpL y z < 0) : cmpL x z < 0 := by
  rw [cmpL_lex] at h k ⊢
  exact lexC_trans h k
def befB (x y : List Int) : Bool := decide (cmpL x y < 0)
theorem bef_iff {x y : List Int} : befB x y = true ↔ cmpL x y < 0 := decide_eq_true_iff
theorem bef_irr {x : List Int} : befB x x = false := by unfold befB; rw [cmpL_self]; rfl
theorem bef_asym {x y : List Int} (h : befB x y = true) : befB y x = false := by
  rw [bef_iff] at h
  unfold befB
  rw [cmpL_swap]
  exact decide_eq_false (by omega)
theorem bef_trans {x y z : List Int} (h : befB x y = true) (k : befB y z = true) : befB x z = true := bef_iff.2 (cmpL_trans (bef_iff.1 h) (bef_iff.1 k))
theorem bef_tri {x y : List Int} (h : befB x y = false) (h' : x ≠ y) : befB y x = true := by
  have e : cmpL y x = - cmpL x y := cmpL_swap x y
  have h1 : ¬ cmpL x y < 0 := of_decide_eq_false h
  have h2 : cmpL x y ≠ 0 := fun e => h' (cmpL_eq e)
  exact bef_iff.2 (by omega)

/-- In order, none twice. -/
def Srt (L : List (List Int)) : Prop := L.Pairwise fun x y => befB x y = true
theorem srt_uniq : ∀ {L K : List (List Int)}, Srt L → Srt K → (∀ x, x ∈ L ↔ x ∈ K) → L = K
  | [], [], _, _, _ => rfl
  | [], b :: K, _, _, h => absurd ((h b).2 (List.mem_cons_self ..)) (by simp)
  | a :: L, [], _, _, h => absurd ((h a).1 (List.mem_cons_self ..)) (by simp)
  | a :: L, b :: K, hL, hK, h => by
    obtain ⟨hl, hL'⟩ := List.pairwise_cons.1 hL
    obtain ⟨hk, hK'⟩ := List.pairwise_cons.1 hK
    have hab : a = b := by
      by_cases hne : a = b
      · exact hne
      · have h1 : b ∈ L := by
          have := (h b).2 (List.mem_cons_self ..)
          rw [List.mem_cons] at this
          exact this.resolve_left (fun e => hne e.symm)
        have h2 : a ∈ K := by
          have := (h a).1 (List.mem_cons_self ..)
          rw [List.mem_cons] at this
          exact this.resolve_left hne
        have h3 := bef_asym (hl b h1)
        rw [hk a h2] at h3
        cases h3
    subst hab
    congr 1
    refine srt_uniq hL' hK' fun x => ?_
    have hx := h x
    rw [List.mem_cons, List.mem_cons] at hx
    constructor
    · intro hm
      rcases hx.1 (.inr hm) with rfl | h1
      · have := hl x hm
        rw [bef_irr] at this
        cases this
      · exact h1
    · intro hm
      rcases hx.2 (.inr hm) with rfl | h1
      · have := hk x hm
        rw [bef_irr] at this
        cases this
      · exact h1
theorem srt_nodup {L : List (List Int)} (h : Srt L) : L.Nodup := h.imp fun {a b} hab e => by
  subst e
  rw [bef_irr] at hab
  cases hab

/-- All ideals, in order. -/
def IsAll (m : Nat) (S P : Nat → Nat) (L : List (List Int)) : Prop := Srt L ∧ ∀ l, l ∈ L ↔ ∃ p, Idl m S P p ∧ l = lstP m p
noncomputable def allL (m : Nat) (S P : Nat → Nat) : List (List Int) := @Classical.epsilon _ ⟨[]⟩ (IsAll m S P)
theorem IsAll.eq {m : Nat} {S P : Nat → Nat} {L : List (List Int)} (h : IsAll m S P L) : allL m S P = L := by
  have h' : IsAll m S P (allL m S P) := @Classical.epsilon_spec_aux _ ⟨[]⟩ (IsAll m S P) ⟨L, h⟩
  exact srt_uniq h'.1 h.1 fun x => (h'.2 x).trans (h.2 x).symm

/-- A list put in its place, if it is not there. -/
def insA : List (List Int) → List Int → List (List Int)
  | [], a => [a]
  | b :: L, a => if befB b a = true then b :: insA L a else if b = a then b :: L else a :: b :: L
theorem insA_mem : ∀ {L : List (List Int)} {a x : List Int}, x ∈ insA L a ↔ x = a ∨ x ∈ L
  | [], a, x => by simp [insA]
  | b :: L, a, x => by
    unfold insA
    by_cases h1 : befB b a = true
    · rw [if_pos h1, List.mem_cons, insA_mem, List.mem_cons]
      constructor
      · rintro (h | h | h)
        · exact .inr (.inl h)
        · exact .inl h
        · exact .inr (.inr h)
      · rintro (h | h | h)
        · exact .inr (.inl h)
        · exact .inl h
        · exact .inr (.inr h)
    · rw [if_neg h1]
      by_cases h2 : b = a
      · rw [if_pos h2, List.mem_cons]
        constructor
        · exact fun h => .inr h
        · rintro (h | h)
          · exact .inl (h.trans h2.symm)
          · exact h
      · rw [if_neg h2, List.mem_cons]
theorem insA_srt : ∀ {L : List (List Int)} {a : List Int}, Srt L → Srt (insA L a)
  | [], a, _ => List.pairwise_singleton _ _
  | b :: L, a, h => by
    obtain ⟨hb, hL⟩ := List.pairwise_cons.1 h
    unfold insA
    by_cases h1 : befB b a = true
    · rw [if_pos h1]
      refine List.pairwise_cons.2 ⟨fun x hx => ?_, insA_srt hL⟩
      rcases insA_mem.1 hx with rfl | hx
      · exact h1
      · exact hb x hx
    · rw [if_neg h1]
      by_cases h2 : b = a
      · rw [if_pos h2]; exact h
      · rw [if_neg h2]
        have h3 := bef_tri (Bool.eq_false_iff.2 h1) h2
        refine List.pairwise_cons.2 ⟨fun x hx => ?_, h⟩
        rw [List.mem_cons] at hx
        rcases hx with rfl | hx
        · exact h3
        · exact bef_trans h3 (hb x hx)
/-- The place: how many stand ahead. -/
def atA : List (List Int) → List Int → Nat
  | [], _ => 0
  | b :: L, a => if befB b a = true then atA L a + 1 else 0
theorem atA_yes {L : List (List Int)} {a b : List Int} (h : befB b a = true) : atA (b :: L) a = atA L a + 1 := (if_pos h : (if befB b a = true then atA L a + 1 else 0) = _)
theorem atA_no {L : List (List Int)} {a b : List Int} (h : ¬ befB b a = true) : atA (b :: L) a = 0 := (if_neg h : (if befB b a = true then atA L a + 1 else 0) = _)
theorem atA_le : ∀ {L : List (List Int)} {a : List Int}, atA L a ≤ L.length
  | [], _ => Nat.le_refl _
  | b :: L, a => by
    unfold atA
    split
    · simp; exact atA_le
    · omega
theorem atA_lt : ∀ {L : List (List Int)} {a : List Int} {i : Nat} (_ : i < atA L a) (hl : i < L.length), befB L[i] a = true
  | [], _, _, h, _ => absurd h (by simp [atA])
  | b :: L, a, i, h, hl => by
    unfold atA at h
    by_cases h1 : befB b a = true
    · rw [if_pos h1] at h
      cases i with
      | zero => exact h1
      | succ i => exact atA_lt (L := L) (i := i) (by omega) (by simpa using hl)
    · rw [if_neg h1] at h; omega
theorem atA_stop : ∀ {L : List (List Int)} {a : List Int} (hl : atA L a < L.length), befB (L[atA L a]) a = false
  | [], _, h => absurd h (by simp)
  | b :: L, a, h => by
    by_cases h1 : befB b a = true
    · have e : atA (b :: L) a = atA L a + 1 := atA_yes h1
      have h' : atA L a < L.length := by rw [e] at h; simpa using h
      have := atA_stop h'
      simp only [e, List.getElem_cons_succ]
      exact this
    · have e : atA (b :: L) a = 0 := atA_no h1
      simp only [e, List.getElem_cons_zero]
      exact Bool.eq_false_iff.2 h1
theorem insA_there : ∀ {L : List (List Int)} {a : List Int} (hl : atA L a < L.length), L[atA L a] = a → insA L a = L
  | [], _, h, _ => absurd h (by simp)
  | b :: L, a, h, he => by
    unfold insA
    by_cases h1 : befB b a = true
    · have e : atA (b :: L) a = atA L a + 1 := atA_yes h1
      have h' : atA L a < L.length := by rw [e] at h; simpa using h
      simp only [e, List.getElem_cons_succ] at he
      rw [if_pos h1, insA_there h' he]
    · have e : atA (b :: L) a = 0 := atA_no h1
      simp only [e, List.getElem_cons_zero] at he
      rw [if_neg h1, if_pos he]
theorem insA_new : ∀ {L : List (List Int)} {a : List Int}, (∀ hl : atA L a < L.length, L[atA L a] ≠ a) → insA L a = L.take (atA L a) ++ a :: L.drop (atA L a)
  | [], _, _ => rfl
  | b :: L, a, h => by
    unfold insA
    by_cases h1 : befB b a = true
    · have e : atA (b :: L) a = atA L a + 1 := atA_yes h1
      rw [if_pos h1, insA_new (L := L) (a := a) (fun hl => by
        have := h (by rw [e]; simpa using hl)
        simp only [e, List.getElem_cons_succ] at this
        exact this), e]
      rfl
    · have e : atA (b :: L) a = 0 := atA_no h1
      have hne : b ≠ a := by
        have := h (by rw [e]; simp)
        simp only [e, List.getElem_cons_zero] at this
        exact this
      rw [if_neg h1, if_neg hne, e]
      rfl
theorem insA_len : ∀ {L : List (List Int)} {a : List Int}, L.length ≤ (insA L a).length ∧ ((insA L a).length = L.length → insA L a = L) ∧ (insA L a).length ≤ L.length + 1
  | [], a => ⟨by simp [insA], by simp [insA], by simp [insA]⟩
  | b :: L, a => by
    obtain ⟨i1, i2, i3⟩ := insA_len (L := L) (a := a)
    unfold insA
    by_cases h1 : befB b a = true
    · rw [if_pos h1]
      refine ⟨by simpa using i1, fun e => ?_, by simpa using i3⟩
      rw [i2 (by simpa using e)]
    · rw [if_neg h1]
      by_cases h2 : b = a
      · rw [if_pos h2]; exact ⟨Nat.le_refl _, fun _ => rfl, Nat.le_succ _⟩
      · rw [if_neg h2]; exact ⟨by simp, fun e => by simp at e, by simp⟩

/-- Lists of numbers below a bound, none twice, are short. -/
theorem nodup_short : ∀ (N : Nat) (l : List Nat), l.Nodup → (∀ x ∈ l, x < N) → l.length ≤ N
  | 0, l, _, h => by
    cases l with
    | nil => exact Nat.le_refl _
    | cons a l => exact absurd (h a (List.mem_cons_self ..)) (by omega)
  | N + 1, l, hn, h => by
    by_cases hN : N ∈ l
    · have h1 := nodup_short N (l.erase N) (hn.erase _) (fun x hx => by
        have h2 := (List.Nodup.mem_erase_iff hn).1 hx
        have := h x h2.2
        omega)
      rw [List.length_erase_of_mem hN] at h1
      omega
    · have := nodup_short N l hn (fun x hx => by
        have := h x hx
        have : x ≠ N := fun e => hN (e ▸ hx)
        omega)
      omega
/-- A set of elements from 1 on as a number. -/
def codeB (p : Nat → Bool) : Nat → Nat
  | 0 => 0
  | k + 1 => codeB p k + if p (k + 1) = true then 2 ^ k else 0
theorem codeB_lt {p : Nat → Bool} : ∀ k, codeB p k < 2 ^ k
  | 0 => by simp [codeB]
  | k + 1 => by
    have := codeB_lt (p := p) k
    unfold codeB
    rw [Nat.pow_succ]
    split <;> omega
theorem codeB_inj {p q : Nat → Bool} : ∀ k, codeB p k = codeB q k → ∀ i, 1 ≤ i → i ≤ k → p i = q i
  | 0, _, i, h1, h2 => by omega
  | k + 1, h, i, h1, h2 => by
    have hp := codeB_lt (p := p) k
    have hq := codeB_lt (p := q) k
    unfold codeB at h
    have hk : p (k + 1) = q (k + 1) ∧ codeB p k = codeB q k := by
      cases h3 : p (k + 1) <;> cases h4 : q (k + 1) <;> simp [h3, h4] at h ⊢ <;> omega
    by_cases e : i = k + 1
    · rw [e]; exact hk.1
    · exact codeB_inj k hk.2 i h1 (by omega)
/-- There are no more ideals than so many. -/
theorem idls_short {m : Nat} {S P : Nat → Nat} (hm : m ≤ 16) {As : List (Nat → Bool)} (h1 : As.Nodup) (h2 : ∀ p ∈ As, Idl m S P p) : As.length ≤ 32768 := by
  have h3 : (As.map fun p => codeB p 15).Nodup := by
    unfold List.Nodup
    rw [List.pairwise_map]
    refine h1.imp_of_mem fun {p q} hp hq hne e => hne ?_
    refine bool_ext fun i => ?_
    have hi := codeB_inj 15 e i
    by_cases h0 : i = 0
    · subst h0; rw [(h2 p hp).z, (h2 q hq).z]
    · by_cases h16 : i ≤ 15
      · rw [hi (by omega) h16]
      · constructor
        · intro h; have := (h2 p hp).lt i h; omega
        · intro h; have := (h2 q hq).lt i h; omega
  have := nodup_short 32768 _ h3 (fun x hx => by
    rw [List.mem_map] at hx
    obtain ⟨p, _, rfl⟩ := hx
    exact codeB_lt 15)
  simpa using this
theorem lists_short {m : Nat} {S P : Nat → Nat} (hm : m ≤ 16) {L : List (List Int)} (h1 : L.Nodup) (h2 : ∀ l ∈ L, ∃ p, Idl m S P p ∧ l = lstP m p) : L.length ≤ 32768 := by
  have h3 : (L.map setL).Nodup := by
    unfold List.Nodup
    rw [List.pairwise_map]
    refine h1.imp_of_mem fun {a b} ha hb hne e => hne ?_
    obtain ⟨p, hp, rfl⟩ := h2 a ha
    obtain ⟨q, hq, rfl⟩ := h2 b hb
    rw [setL_lst hp.lt, setL_lst hq.lt] at e
    rw [e]
  have := idls_short (S := S) (P := P) hm h3 (fun p hp => by
    rw [List.mem_map] at hp
    obtain ⟨l, hl, rfl⟩ := hp
    obtain ⟨q, hq, rfl⟩ := h2 l hl
    rw [setL_lst hq.lt]
    exact hq)
  simpa using this

section
variable {m e : Nat} {S P : Nat → Nat}
/-- Sets of ideals that have those of one element and sums have all. -/
theorem RTab.all_of (R : RTab m S P e) {A : (Nat → Bool) → Prop} (h1 : ∀ a, a < m → A (mulB m P a)) (h2 : ∀ p q, A p → A q → A (opsB m S p q)) {p : Nat → Bool} (hp : Idl m S P p) : A p := by
  have h3 : ∀ l : List Nat, (∀ x ∈ l, x < m) → A (genB m S P (memB l.reverse)) := fun l => by
    induction l with
    | nil => intro _; rw [List.reverse_nil, R.gen_nil]; exact h1 0 R.hm
    | cons a l ih =>
      intro hl
      have ha := hl a (List.mem_cons_self ..)
      rw [List.reverse_cons, R.gen_snoc (fun x hx => hl x (List.mem_cons_of_mem _ (List.mem_reverse.1 hx))) ha]
      exact h2 _ _ (ih fun x hx => hl x (List.mem_cons_of_mem _ hx)) (h1 a ha)
  have h4 := h3 (finN (selTo m p m)).reverse (fun x hx => (lst_in.1 (List.mem_reverse.1 hx)).1)
  rw [List.reverse_reverse] at h4
  have e1 : memB (finN (selTo m p m)) = p := bool_ext fun i => by
    rw [memB_iff, lst_in]
    exact ⟨fun h => h.2, fun h => ⟨hp.lt i h, h⟩⟩
  rw [e1, gen_self hp] at h4
  exact h4
/-- Sets of ideals that have that of 0 and, with an ideal, its sum with each ideal of one element, have all. -/
theorem RTab.all_from (R : RTab m S P e) {A : Nat → (Nat → Bool) → Prop} (h0 : A 0 (mulB m P 0)) (h1 : ∀ a p, a < m → A a p → A (a + 1) p) (h2 : ∀ a p, a < m → A a p → A (a + 1) (opsB m S p (mulB m P a))) {p : Nat → Bool} (hp : Idl m S P p) : A m p := by
  have h3 : ∀ k, k ≤ m → A k (genB m S P (memB (finN (selTo m p k)))) := fun k => by
    induction k with
    | zero => intro _; rw [show finN (selTo m p 0) = [] from rfl, R.gen_nil]; exact h0
    | succ k ih =>
      intro hk
      cases hpk : p k
      · rw [selTo_no hpk]
        exact h1 k _ (by omega) (ih (by omega))
      · rw [selTo_yes (by omega) hpk]
        have e1 : finN (selTo m p k ++ [(⟨k, by omega⟩ : Fin m)]) = finN (selTo m p k) ++ [k] := by simp [finN]
        rw [e1, R.gen_snoc (fun x hx => by have := ((selTo_mem k (by omega)).1 hx).1; omega) (by omega)]
        exact h2 k _ (by omega) (ih (by omega))
  have h4 := h3 m (Nat.le_refl _)
  have e1 : memB (finN (selTo m p m)) = p := bool_ext fun i => by
    rw [memB_iff, lst_in]
    exact ⟨fun h => h.2, fun h => ⟨hp.lt i h, h⟩⟩
  rw [e1, gen_self hp] at h4
  exact h4
end
end Go.Proofs.YtajoimopahibcaaGreat



/- The reading side's order of ideals; appends of slices of values in a region that draws its order. -/
namespace Go.Proofs.YtajoimopahibcaaGreat
open Go.RowKit Go.Shelf
set_option maxRecDepth 100000

theorem bef_len {x y : List Int} (h : x.length ≠ y.length) : befB x y = decide (x.length < y.length) := by
  unfold befB cmpL
  by_cases h1 : x.length < y.length
  · rw [if_pos h1, decide_eq_true h1]; rfl
  · rw [if_neg h1, if_pos (by omega), decide_eq_false h1]; rfl
theorem lexC_at : ∀ {j : Nat} {xs ys : List Int}, xs.length = ys.length → j < xs.length → (∀ i, i < j → xs[i]?.getD 0 = ys[i]?.getD 0) → xs[j]?.getD 0 ≠ ys[j]?.getD 0 → lexC xs ys = if xs[j]?.getD 0 < ys[j]?.getD 0 then -1 else 1
  | _, [], _, _, h, _, _ => absurd h (by simp)
  | _, _ :: _, [], h, _, _, _ => absurd h (by simp)
  | 0, a :: x, b :: y, _, _, _, hne => by
    simp only [List.getElem?_cons_zero, Option.getD_some] at hne ⊢
    unfold lexC
    by_cases h1 : a < b
    · rw [if_pos h1, if_pos h1]
    · rw [if_neg h1, if_neg h1, if_pos (by omega)]
  | j + 1, a :: x, b :: y, hl, hj, h, hne => by
    have h0 : a = b := by simpa using h 0 (by omega)
    subst h0
    have ih := lexC_at (j := j) (xs := x) (ys := y) (by simpa using hl) (by simpa using hj) (fun i hi => by simpa using h (i + 1) (by omega)) (by simpa using hne)
    simp only [List.getElem?_cons_succ]
    rw [← ih]
    conv => lhs; unfold lexC
    rw [if_neg (by omega), if_neg (by omega)]
theorem bef_at {j : Nat} {xs ys : List Int} (hl : xs.length = ys.length) (hj : j < xs.length) (h : AlikeTo xs ys j) (hne : xs[j]?.getD 0 ≠ ys[j]?.getD 0) : befB xs ys = decide (xs[j]?.getD 0 < ys[j]?.getD 0) := by
  unfold befB cmpL
  rw [if_neg (by omega), if_neg (by omega), lexC_at hl hj h hne]
  by_cases h1 : xs[j]?.getD 0 < ys[j]?.getD 0
  · rw [if_pos h1, decide_eq_true h1]; rfl
  · rw [if_neg h1, decide_eq_false h1]; rfl
theorem bef_end {xs ys : List Int} (hl : xs.length = ys.length) (h : AlikeTo xs ys xs.length) : befB xs ys = false := by
  have : xs = ys := List.ext_getElem hl fun i h1 h2 => by
    have := h i h1
    rwa [List.getElem?_eq_getElem h1, List.getElem?_eq_getElem h2] at this
  subst this
  exact bef_irr

set_option maxHeartbeats 2000000 in
theorem l4Before_any (A B : Option Addr) (n k ca cb : Nat) (xs ys : List Int) (w : World) (C D : Nat) (hA : Ints w C A n xs) (hB : Ints w D B k ys) (hn : n ≤ 9223372036854775807) (hk : k ≤ 9223372036854775807) :
    Calls Tryz.prog 150 #[.slice A n ca, .slice B k cb] w fun e w' => e = .returned (.bool (befB xs ys)) ∧ Below w.heap.size w w' := by
  have HA := Lib.hid hA
  have HB := Lib.hid hB
  clear hA hB
  rcases Nat.lt_trichotomy n k with hnk | hnk | hnk
  · have HX := Lib.hid (show befB xs ys = true by rw [bef_len (by rw [HA.out.1, HB.out.1]; omega), HA.out.1, HB.out.1]; exact decide_eq_true hnk)
    have tt : ((n : Int) != (k : Int)) = true := by rw [bne_iff_ne]; omega
    have t2 : (n : Int) < (k : Int) := by omega
    go_enter Tryz.func150, Tryz.ntmps150
    go_wp2
    go_ret
    exact ⟨ret_bool (HX.out).symm, Below.refl _ _⟩
  · subst hnk
    have HL := Lib.hid (show xs.length = ys.length by rw [HA.out.1, HB.out.1])
    go_enter Tryz.func150, Tryz.ntmps150
    go_wp2
    go_loopw [18] (fun i wr => ∃ j : Nat, j ≤ n ∧ i = .int .i64 j ∧ AlikeTo xs ys j ∧ ∃ d : Nat, wr = w.drewN d) (fun i _ => n - (intOf i).toNat)
    case atStart => exact ⟨0, Nat.zero_le _, rfl, fun j hj => absurd hj (by omega), 0, rfl⟩
    case round =>
      obtain ⟨j, hj, rfl, hup, d, rfl⟩ := hrel
      have HU := Lib.hid hup
      clear hup
      by_cases hlt : j < n
      · obtain ⟨b1, o1, rfl, _, hc1⟩ := HA.out.at_ (show j < n by omega)
        obtain ⟨b2, o2, rfl, _, hc2⟩ := HB.out.at_ (show j < n by omega)
        by_cases he : xs[j]?.getD 0 = ys[j]?.getD 0
        · have HE := Lib.hid he
          have te : (xs[j]?.getD 0 != ys[j]?.getD 0) = false := by rw [bne_eq_false_iff_eq]; exact he
          have t1 : xs[j]?.getD 0 ≤ ys[j]?.getD 0 := by omega
          have t2 : ys[j]?.getD 0 ≤ xs[j]?.getD 0 := by omega
          clear he
          go_wp2
          go_quiet (fail)
          go_wp2
          go_roundw
          case rel => exact ⟨j + 1, by omega, by go_num, forall_succ HU.out HE.out, _, rfl⟩
          case measure => simp [intOf]; omega
        · have HE := Lib.hid he
          have te : (xs[j]?.getD 0 != ys[j]?.getD 0) = true := by rw [bne_iff_ne]; exact he
          have HX := Lib.hid (bef_at HL.out (by rw [HA.out.1]; exact hlt) HU.out he)
          clear he
          go_wp2
          go_quiet (fail)
          go_wp2
          go_quiet (fail)
          go_wp2
          go_ret
          exact ⟨ret_bool (HX.out).symm, below_drewN (below_drewN (below_drewN (Below.refl _ _) _) _) _⟩
      · have HX := Lib.hid (bef_end HL.out (by rw [HA.out.1]; exact (show j = n by omega) ▸ HU.out))
        go_wp2
        go_ret
        exact ⟨ret_bool (HX.out).symm, below_drewN (Below.refl _ _) _⟩
  · have HX := Lib.hid (show befB xs ys = false by rw [bef_len (by rw [HA.out.1, HB.out.1]; omega), HA.out.1, HB.out.1]; exact decide_eq_false (by omega))
    have tt : ((n : Int) != (k : Int)) = true := by rw [bne_iff_ne]; omega
    have t2 : ¬ (n : Int) < (k : Int) := by omega
    go_enter Tryz.func150, Tryz.ntmps150
    go_wp2
    go_ret
    exact ⟨ret_bool (HX.out).symm, Below.refl _ _⟩

end Go.Proofs.YtajoimopahibcaaGreat



/- Rows of slices that a region makes by appends, one behind another, some in place. -/
namespace Go.Proofs.YtajoimopahibcaaGreat
open Go.RowKit Go.Shelf
set_option maxRecDepth 100000

theorem add_at (g o j : Nat) : (⟨g, o, none⟩ : Addr).add j = ⟨g, o + j, none⟩ := by unfold Addr.add; split <;> simp_all
/-- A row of the call's own that begins with these values; none: without room. -/
def Sw (D : Nat) (Z : List Value) (v : Value) (w : World) : Prop :=
  ∃ g cap, v = .slice (some ⟨g, 0, none⟩) Z.length cap ∧ D ≤ g ∧ g < w.heap.size ∧ Z.length ≤ cap ∧ cap ≤ maxLen ∧ (Z.length = 0 → cap = 0) ∧
    (∀ j, j < cap → (w.cell? ⟨g, j, none⟩).isSome = true ∧ w.frozen? ⟨g, j, none⟩ = false) ∧ (∀ (j : Nat) (y : Value), Z[j]? = some y → w.cell? ⟨g, j, none⟩ = some y)
theorem Sw.next {D : Nat} {Z : List Value} {v : Value} {w w' : World} (h : Sw D Z v w) (hb : Below w.heap.size w w') : Sw D Z v w' := by
  obtain ⟨g, cap, e, h1, h2, h3, h3', h6, h4, h5⟩ := h
  refine ⟨g, cap, e, h1, Nat.lt_of_lt_of_le h2 hb.size, h3, h3', h6, fun j hj => ?_, fun j y hy => ?_⟩
  · rw [hb.cell (p := ⟨g, j, none⟩) h2, hb.frozen (p := ⟨g, j, none⟩) h2]; exact h4 j hj
  · rw [hb.cell (p := ⟨g, j, none⟩) h2]; exact h5 j y hy
theorem Sw.of_owns {w : World} {D B n : Nat} {v : Value} {Z : List Value} (h : w.ownsRow B 23 1 v n Z) (hz : Z.length = n) (hB : D ≤ B) (hn : 1 ≤ n) : Sw D Z v w := by
  subst hz
  rcases h.2 with ⟨_, h0⟩ | ⟨g, cap, cur, rfl, hg, hb, hc, hm, hs, ht⟩
  · omega
  · have hb' : Blk w g 23 cur := hb
    refine ⟨g, cap, rfl, Nat.le_trans hB hg, hb'.lt, hc, hm, fun h => by omega, fun j hj => ⟨?_, hb'.frozen j⟩, fun j y hy => ?_⟩
    · rw [hb'.cell j, Array.getElem?_eq_getElem (by omega)]; rfl
    · have hj : j < Z.length := (List.getElem?_eq_some_iff.1 hy).1
      rw [hb'.cell j]
      have e1 : cur.toList[j]? = Z[j]? := by rw [← ht, List.getElem?_take]; simp; omega
      rw [← Array.getElem?_toList, e1, hy]
/-- What a region that appends keeps: all rows that begin as the one in the end, and the first cell of each block. -/
def SwR (D : Nat) (Z : List Value) (w w' : World) : Prop := Below D w w' ∧ (∀ n v, Sw D (Z.take n) v w → Sw D (Z.take n) v w') ∧ ∀ g, g < w.heap.size → w'.cell? ⟨g, 0, none⟩ = w.cell? ⟨g, 0, none⟩
section
variable {D : Nat} {Z : List Value}
theorem SwR.refl (w : World) : SwR D Z w w := ⟨Below.refl _ _, fun _ _ h => h, fun _ _ => rfl⟩
theorem SwR.trans (a b c : World) (h : SwR D Z a b) (h' : SwR D Z b c) : SwR D Z a c := ⟨h.1.trans h'.1, fun n v hv => h'.2.1 n v (h.2.1 n v hv), fun g hg => (h'.2.2 g (Nat.lt_of_lt_of_le hg h.1.size)).trans (h.2.2 g hg)⟩
theorem SwR.of_below {w w' : World} (hb : Below w.heap.size w w') (hD : D ≤ w.heap.size) : SwR D Z w w' := ⟨hb.mono hD, fun _ _ h => h.next hb, fun g hg => hb.cell (p := ⟨g, 0, none⟩) hg⟩
theorem SwR.drew (w : World) (hD : D ≤ w.heap.size) : SwR D Z w w.drew := SwR.of_below (Below.refl _ _).drew hD
theorem Sw.write {g k n m : Nat} {v : Value} {w : World} (hr : ∀ j, j < ((Z.drop k).take n).length → (w.cell? ⟨g, k + j, none⟩).isSome = true) (h : Sw D (Z.take m) v w) : Sw D (Z.take m) v (w.setCells g k ((Z.drop k).take n)) := by
  obtain ⟨g', cap, e, h1, h2, h3, h3', h6, h4, h5⟩ := h
  refine ⟨g', cap, e, h1, Nat.lt_of_lt_of_le h2 (Below.setCells_ (B := 0) (g := g) ((Z.drop k).take n) k (Below.refl 0 w) (Nat.zero_le _)).size, h3, h3', h6, fun j hj => ⟨World.isSome_setCells _ _ _ _ _ (h4 j hj).1, by rw [World.frozen?_setCells]; exact (h4 j hj).2⟩, fun j y hy => ?_⟩
  by_cases eg : g' = g
  · subst eg
    have hyZ : Z[j]? = some y := by
      rw [List.getElem?_take] at hy
      split at hy
      · exact hy
      · cases hy
    by_cases hin : k ≤ j ∧ j - k < ((Z.drop k).take n).length
    · obtain ⟨hk, hl⟩ := hin
      have := World.cell?_setCells_in g' ((Z.drop k).take n) k w hr (j - k) hl
      rw [show k + (j - k) = j by omega] at this
      rw [this, ← List.getElem?_eq_getElem hl, List.getElem?_take, if_pos (by simp at hl; omega), List.getElem?_drop, show k + (j - k) = j by omega, hyZ]
    · rw [World.cell?_setCells_out _ _ _ _ _ (fun _ _ => by show j < k ∨ k + _ ≤ j; omega)]; exact h5 j y hy
  · rw [World.cell?_setCells_out _ _ _ _ _ (fun hb _ => absurd hb eg)]; exact h5 j y hy
theorem SwR.write {g k n : Nat} {w : World} (hD : D ≤ g) (hk : 1 ≤ k) (hr : ∀ j, j < ((Z.drop k).take n).length → (w.cell? ⟨g, k + j, none⟩).isSome = true) : SwR D Z w (w.setCells g k ((Z.drop k).take n)) :=
  ⟨Below.setCells_ _ _ (Below.refl _ _) hD, fun _ _ h => h.write hr, fun _ _ => World.cell?_setCells_out _ _ _ _ _ (fun _ _ => by show 0 < k ∨ _; omega)⟩
end

/-- Some more values behind a row that begins as the one in the end. -/
theorem makes_sw {o : Oper} {a : Act} (s x : Operand) (hop : o.op = .call { callee := .builtin .append, args := #[s, x], argTypes := #[30, 30] }) (D n c k : Nat) (A : Addr) (Z : List Value) (v : Value) (w : World)
    (hs : a.eval s = v) (hv : Sw D (Z.take k) v w) (hx : a.eval x = .slice (some A) n c) (hX : ∀ (j : Nat) (u : Value), ((Z.drop k).take n)[j]? = some u → w.cell? (A.add j) = some u) (hkn : k + n ≤ Z.length) (h1 : ∀ u ∈ Z, u.oneCell' = true) (hz : Z.length ≤ 100000) (hD : D ≤ w.heap.size) :
    makesAtR Tryz.prog (SwR D Z) (fun _ => True) o a w fun v w' => Sw D (Z.take (k + n)) v w' := by
  obtain ⟨i0, hi, hz0, hz1, hz2⟩ := info_parts sl_info
  have hv0 := hv
  have hlk : (Z.take k).length = k := by rw [List.length_take]; omega
  have hln : ((Z.drop k).take n).length = n := by rw [List.length_take, List.length_drop]; omega
  have hlz : (Z.take (k + n)).length = k + n := by rw [List.length_take]; omega
  have hone : ∀ u ∈ (Z.drop k).take n, u.oneCell' = true := fun u hu => h1 u (List.mem_of_mem_drop (List.mem_of_mem_take hu))
  obtain ⟨g, cap, rfl, q1, q2, q3, q3', q6, q4, q5⟩ := hv
  rw [hlk] at hs q3 q6
  by_cases hr : k + n ≤ cap
  · have hrm : ∀ j, j < ((Z.drop k).take n).length → (w.cell? ⟨g, k + j, none⟩).isSome = true := fun j hj => (q4 _ (by omega)).1
    have hrun := run_append_room_cells (P := Tryz.prog) w 30 o.type 23 i0 Tryz.underlying30 hi g 0 k cap A n c ((Z.drop k).take n) (by rw [hz1, hln]; omega) hX hone hr
      (fun j hj => by rw [hz1, Nat.zero_add, Nat.mul_one]; exact hrm j hj) (fun j hj => by rw [hz1, Nat.zero_add, Nat.mul_one]; exact (q4 _ (by omega)).2)
    rw [hz1, Nat.zero_add, Nat.mul_one] at hrun
    unfold makesAtR execOp
    simp only [hop, resolve, invoke, builtin, Sem.run_bind, Sem.run_pure, Result.andThen_ok, List.map_toArray, List.map_cons, List.map_nil, hs, hx, hrun, makesUponR]
    by_cases hk : 1 ≤ k
    · have hw : SwR D Z w (w.setCells g k ((Z.drop k).take n)) := SwR.write q1 hk hrm
      refine ⟨hw, trivial, ?_⟩
      have h6 := hw.2.1 _ _ hv0
      obtain ⟨g', cap', e, _, p2, _, _, _, p4, p5⟩ := h6
      rw [hlk] at e
      simp only [Value.slice.injEq, Option.some.injEq, Addr.mk.injEq, and_true, true_and] at e
      obtain ⟨rfl, rfl⟩ := e
      refine ⟨g, cap, by rw [hlz], q1, p2, by rw [hlz]; exact hr, q3', fun h => by rw [hlz] at h; omega, p4, fun j y hy => ?_⟩
      by_cases hj : j < k
      · refine p5 j y ?_
        rw [List.getElem?_take] at hy ⊢
        rw [if_pos (by omega)] at hy
        rw [if_pos hj]; exact hy
      · have hj2 : j < k + n := by have := (List.getElem?_eq_some_iff.1 hy).1; omega
        have hl : j - k < ((Z.drop k).take n).length := by omega
        have := World.cell?_setCells_in g ((Z.drop k).take n) k w hrm (j - k) hl
        rw [show k + (j - k) = j by omega] at this
        rw [this, ← List.getElem?_eq_getElem hl, List.getElem?_take, if_pos (by omega), List.getElem?_drop, show k + (j - k) = j by omega]
        rw [List.getElem?_take, if_pos hj2] at hy
        exact hy
    · have hk0 : k = 0 := by omega
      subst hk0
      have hn0 : n = 0 := by have := q6 rfl; omega
      subst hn0
      rw [List.take_zero]
      exact ⟨SwR.refl _, trivial, hv0⟩
  · obtain ⟨v', w', hrun, ho, hg⟩ := run_append_arg_grows (P := Tryz.prog) w 30 o.type 23 i0 (.slice none 0 0) 1 24 Tryz.underlying30 hi hz0 hz1 hz2 rfl (by omega) ⟨g, 0, none⟩ k cap (Z.take k) (by rw [hlk]; omega) (fun j u hu => by
      have e : (⟨g, 0, none⟩ : Addr).add j = ⟨g, j, none⟩ := by rw [add_at, Nat.zero_add]
      rw [e]; exact q5 j u hu) A n c ((Z.drop k).take n)
      (by rw [hln]; omega) hX (by omega) (by unfold maxLen; omega) (by omega)
    rw [← List.take_add] at ho
    unfold makesAtR execOp
    simp only [hop, resolve, invoke, builtin, Sem.run_bind, Sem.run_pure, Result.andThen_ok, List.map_toArray, List.map_cons, List.map_nil, hs, hx, hrun, makesUponR]
    exact ⟨SwR.of_below ⟨hg.os, hg.tape, hg.output, hg.size, fun k hk => hg.block k hk (by simp)⟩ hD, trivial, Sw.of_owns ho hlz hD (by omega)⟩

end Go.Proofs.YtajoimopahibcaaGreat



/- The reading side puts an ideal in its place. -/
namespace Go.Proofs.YtajoimopahibcaaGreat
open Go.RowKit Go.Shelf
set_option maxRecDepth 100000

/-- These values are slices with these contents. -/
def EL (D : Nat) (w : World) (xs : List Value) (ZZ : List (List Int)) : Prop :=
  xs.length = ZZ.length ∧ ∀ (i : Nat) (Z : List Int), ZZ[i]? = some Z → ∃ (B : Option Addr) (c : Nat), xs[i]? = some (Value.slice B Z.length c) ∧ Z.length ≤ c ∧ Z.length ≤ 1048570 ∧ Own w D B Z.length Z
section
variable {D : Nat} {w w' : World} {xs ys : List Value} {ZZ KK : List (List Int)}
theorem EL.next (h : EL D w xs ZZ) (hb : Below w.heap.size w w') : EL D w' xs ZZ := ⟨h.1, fun i Z hZ => by
  obtain ⟨B, c, e1, e2, e3, e4⟩ := h.2 i Z hZ
  exact ⟨B, c, e1, e2, e3, e4.next hb⟩⟩
theorem EL.nil : EL D w [] [] := ⟨rfl, fun i Z h => by simp at h⟩
theorem EL.one {B : Option Addr} {l c : Nat} {Z : List Int} (h : Own w D B l Z) (hc : l ≤ c) (hl : l ≤ 1048570) : EL D w [.slice B l c] [Z] := ⟨rfl, fun i Y hY => by
  have hi : i = 0 := by have := (List.getElem?_eq_some_iff.1 hY).1; simp at this; omega
  subst hi
  simp at hY
  subst hY
  have e : Z.length = l := h.1
  rw [e]
  exact ⟨B, c, rfl, hc, hl, h⟩⟩
theorem EL.app (h : EL D w xs ZZ) (h' : EL D w ys KK) : EL D w (xs ++ ys) (ZZ ++ KK) := ⟨by simp [h.1, h'.1], fun i Z hZ => by
  rcases Nat.lt_or_ge i ZZ.length with hi | hi
  · rw [List.getElem?_append_left hi] at hZ
    rw [List.getElem?_append_left (by rw [h.1]; exact hi)]
    exact h.2 i Z hZ
  · rw [List.getElem?_append_right hi] at hZ
    rw [List.getElem?_append_right (by rw [h.1]; exact hi), h.1]
    exact h'.2 _ Z hZ⟩
theorem EL.take (h : EL D w xs ZZ) (k : Nat) : EL D w (xs.take k) (ZZ.take k) := ⟨by simp [h.1], fun i Z hZ => by
  rw [List.getElem?_take] at hZ ⊢
  split at hZ
  · rename_i hi; rw [if_pos hi]; exact h.2 i Z hZ
  · cases hZ⟩
theorem EL.drop (h : EL D w xs ZZ) (k : Nat) : EL D w (xs.drop k) (ZZ.drop k) := ⟨by simp [h.1], fun i Z hZ => by
  rw [List.getElem?_drop] at hZ ⊢
  exact h.2 _ Z hZ⟩
theorem EL.cells (h : EL D w xs ZZ) : ∀ u ∈ xs, u.oneCell' = true := fun u hu => by
  obtain ⟨i, hi, rfl⟩ := List.getElem_of_mem hu
  obtain ⟨B, c, e, _⟩ := h.2 i _ (List.getElem?_eq_getElem (by rw [← h.1]; exact hi))
  rw [List.getElem?_eq_getElem hi] at e
  simp only [Option.some.injEq] at e
  rw [e]; rfl
end
/-- A slice of slices that can be read, somewhere. -/
def LLv (D : Nat) (w : World) (v : Value) (ZZ : List (List Int)) : Prop :=
  ∃ g cap xs, v = .slice (some ⟨g, 0, none⟩) ZZ.length cap ∧ g < w.heap.size ∧ ZZ.length ≤ cap ∧ (∀ (i : Nat) (u : Value), xs[i]? = some u → w.cell? ⟨g, i, none⟩ = some u) ∧ EL D w xs ZZ ∧ D ≤ g
theorem LLv.next {D : Nat} {w w' : World} {v : Value} {ZZ : List (List Int)} (h : LLv D w v ZZ) (hb : Below w.heap.size w w') : LLv D w' v ZZ := by
  obtain ⟨g, cap, xs, e, h1, h2, h3, h4, h5⟩ := h
  exact ⟨g, cap, xs, e, Nat.lt_of_lt_of_le h1 hb.size, h2, fun i u hu => (hb.cell (p := ⟨g, i, none⟩) h1).trans (h3 i u hu), h4.next hb, h5⟩
theorem LLv.empty {D : Nat} {w : World} {t : TypeId} (hD : D ≤ w.heap.size) : LLv D (w.alloc (.cells #[] t)) (.slice (some ⟨w.heap.size, 0, none⟩) 0 0) [] :=
  ⟨w.heap.size, 0, [], rfl, by simp, Nat.le_refl _, fun i u h => by simp at h, EL.nil, hD⟩
theorem LLv.readr {D : Nat} {w : World} {v : Value} {ZZ : List (List Int)} (h : LLv D w v ZZ) : LLr w v ZZ := by
  obtain ⟨g, cap, xs, e, h1, _, h3, h4, _⟩ := h
  refine ⟨_, cap, e, fun i Z hZ => ?_⟩
  obtain ⟨B, c, e1, e2, e3, e4⟩ := h4.2 i Z hZ
  exact ⟨g, B, c, rfl, h1, h3 i _ e1, e2, e3, e4.ints⟩

theorem atA_stop' {L : List (List Int)} {a Y : List Int} {k : Nat} (hk : atA L a = k) (h : L[k]? = some Y) : befB Y a = false := by
  subst hk
  have hl := (List.getElem?_eq_some_iff.1 h).1
  rw [List.getElem?_eq_getElem hl] at h
  simp only [Option.some.injEq] at h
  rw [← h]
  exact atA_stop hl
theorem insA_there' {L : List (List Int)} {a : List Int} {k : Nat} (hk : atA L a = k) (h : L[k]? = some a) : insA L a = L := by
  subst hk
  have hl := (List.getElem?_eq_some_iff.1 h).1
  rw [List.getElem?_eq_getElem hl] at h
  simp only [Option.some.injEq] at h
  exact insA_there hl h
theorem insA_new' {L : List (List Int)} {a : List Int} {k : Nat} (hk : atA L a = k) (h : L[k]? ≠ some a) : insA L a = L.take k ++ a :: L.drop k := by
  subst hk
  exact insA_new fun hl e => h (by rw [List.getElem?_eq_getElem hl, e])

def plainS (o : Oper) : Bool := match o.op with
  | .slice _ _ _ _ _ => true
  | _ => plainOp o
theorem plainS_noEnter {P : Program} {o : Oper} (h : plainS o = true) : NoEnter P o := by
  cases hop : o.op
  case slice t x lo hi mx =>
    intro ev w f args w'
    unfold execOp
    rw [hop]
    exact bind_noEnter _ _ _ _ _
  all_goals
    refine plain_noEnter ?_
    unfold plainS at h
    rw [hop] at h
    exact h

def lpMk (i : Nat) : Bool := i == 0 || i == 4 || i == 6 || i == 7 || i == 11
structure LpPhi (D t r : Nat) (Z : List Value) (u : Value) (i : Nat) (v : Value) (w : World) : Prop where
  p0 : i = 0 → Sw D (Z.take 0) v w
  p4 : i = 4 → Sw D (Z.take t) v w
  p6 : i = 6 → ∃ g, v = .slice (some ⟨g, 0, none⟩) 1 1 ∧ g < w.heap.size ∧ w.cell? ⟨g, 0, none⟩ = some u
  p7 : i = 7 → Sw D (Z.take (t + 1)) v w
  p11 : i = 11 → Sw D (Z.take (t + 1 + r)) v w
structure LpSh (t r : Nat) (i : Nat) (v : Value) : Prop where
  p0 : i = 0 → ∃ g, v = .slice (some ⟨g, 0, none⟩) 0 0
  p4 : i = 4 → ∃ g c, v = .slice (some ⟨g, 0, none⟩) t c
  p6 : i = 6 → ∃ g, v = .slice (some ⟨g, 0, none⟩) 1 1
  p7 : i = 7 → ∃ g c, v = .slice (some ⟨g, 0, none⟩) (t + 1) c
  p11 : i = 11 → ∃ g c, v = .slice (some ⟨g, 0, none⟩) (t + 1 + r) c
theorem LpPhi_stable {D t r : Nat} {Z : List Value} {u : Value} (i : Nat) (v : Value) (w w' : World) (h : LpPhi D t r Z u i v w) (hr : SwR D Z w w') : LpPhi D t r Z u i v w' :=
  ⟨fun e => hr.2.1 _ v (h.p0 e), fun e => hr.2.1 _ v (h.p4 e), fun e => by obtain ⟨g, e1, e2, e3⟩ := h.p6 e; exact ⟨g, e1, Nat.lt_of_lt_of_le e2 hr.1.size, (hr.2.2 g e2).trans e3⟩, fun e => hr.2.1 _ v (h.p7 e), fun e => hr.2.1 _ v (h.p11 e)⟩
theorem LpSh_of {D t r : Nat} {Z : List Value} {u : Value} (hz : Z.length = t + 1 + r) (i : Nat) (v : Value) (w : World) (h : LpPhi D t r Z u i v w) : LpSh t r i v := by
  have ln : ∀ k, k ≤ t + 1 + r → (Z.take k).length = k := fun k hk => by rw [List.length_take]; omega
  refine ⟨fun e => ?_, fun e => ?_, fun e => ?_, fun e => ?_, fun e => ?_⟩
  · obtain ⟨g, c, h1, _, _, _, _, h6, _⟩ := h.p0 e
    have h0 := h6 rfl
    subst h0
    exact ⟨g, h1⟩
  · obtain ⟨g, c, h1, _⟩ := h.p4 e
    rw [ln t (by omega)] at h1
    exact ⟨g, c, h1⟩
  · obtain ⟨g, h1, _⟩ := h.p6 e
    exact ⟨g, h1⟩
  · obtain ⟨g, c, h1, _⟩ := h.p7 e
    rw [ln (t + 1) (by omega)] at h1
    exact ⟨g, c, h1⟩
  · obtain ⟨g, c, h1, _⟩ := h.p11 e
    rw [ln (t + 1 + r) (by omega)] at h1
    exact ⟨g, c, h1⟩
def lp0 (t r : Nat) (i : Nat) : Value := if i = 0 then .slice (some ⟨0, 0, none⟩) 0 0 else if i = 4 then .slice (some ⟨0, 0, none⟩) t 0 else if i = 6 then .slice (some ⟨0, 0, none⟩) 1 1 else if i = 7 then .slice (some ⟨0, 0, none⟩) (t + 1) 0 else .slice (some ⟨0, 0, none⟩) (t + 1 + r) 0
theorem LpSh_zero {t r : Nat} (i : Nat) : LpSh t r i (lp0 t r i) := ⟨fun e => by subst e; exact ⟨0, rfl⟩, fun e => by subst e; exact ⟨0, 0, rfl⟩, fun e => by subst e; exact ⟨0, rfl⟩, fun e => by subst e; exact ⟨0, 0, rfl⟩, fun e => by subst e; exact ⟨0, 0, rfl⟩⟩

set_option maxHeartbeats 8000000 in
theorem l4Put_any (D : Nat) (v : Value) (ZZ : List (List Int)) (C : Option Addr) (len cap : Nat) (Z : List Int) (w : World) (_hD : D ≤ w.heap.size) (hv : LLv D w v ZZ) (hZ : Own w D C len Z) (hc : len ≤ cap) (hl : len ≤ 1048570) (hz : ZZ.length ≤ 90000) :
    Calls Tryz.prog 140 #[v, .slice C len cap] w fun e w' => ∃ v', e = .returned v' ∧ LLv D w' v' (insA ZZ Z) ∧ Below w.heap.size w w' := by
  have HV := Lib.hid hv
  obtain ⟨g, q, xs, rfl, hg, hq, hcell, hel, _⟩ := hv
  obtain ⟨n, hn⟩ : ∃ x, ZZ.length = x := ⟨_, rfl⟩
  obtain ⟨t, ht⟩ : ∃ x, atA ZZ Z = x := ⟨_, rfl⟩
  have htn : t ≤ n := by rw [← ht, ← hn]; exact atA_le
  rw [hn] at hq hz ⊢
  have HN := Lib.hid hn
  have HT := Lib.hid ht
  have HC := Lib.hid hcell
  have HE := Lib.hid hel
  have HZ := Lib.hid hZ
  have hxn : xs.length = n := by rw [hel.1, hn]
  have HXN := Lib.hid hxn
  have q0 : (t : Int) ≤ (q : Int) := by omega
  clear hcell hel hn ht hZ hxn
  go_enter Tryz.func140, Tryz.ntmps140
  go_wp2
  go_loopg [5] (n + 1) (fun g2 vi wr => ∃ k : Nat, k ≤ t ∧ n + 1 ≤ k + g2 ∧ vi = .int .i64 k ∧ Below w.heap.size w wr)
  case atStart => exact ⟨0, Nat.zero_le _, by omega, rfl, Below.refl _ _⟩
  case round =>
    obtain ⟨k, hk, hg2, rfl, hb⟩ := hrel
    have BW := Lib.hid hb
    have hsz := hb.size
    clear hb
    by_cases hlt : k < n
    · have hkz : k < ZZ.length := by rw [HN.out]; exact hlt
      obtain ⟨Y, hY⟩ : ∃ Y, ZZ[k] = Y := ⟨_, rfl⟩
      have hYs : ZZ[k]? = some Y := by rw [List.getElem?_eq_getElem hkz, hY]
      obtain ⟨B, c, hx, hlc, hl48, hI⟩ := HE.out.2 k Y hYs
      obtain ⟨lk, hlk⟩ : ∃ x, Y.length = x := ⟨_, rfl⟩
      rw [hlk] at hx hlc hl48 hI
      have hck : wr.cell? ⟨g, k, none⟩ = some (.slice B lk c) := (BW.out.cell (p := ⟨g, k, none⟩) hg).trans (HC.out k _ hx)
      have HI := Lib.hid (hI.ints.next BW.out)
      have HZW := Lib.hid (HZ.out.ints.next BW.out)
      have HYY := Lib.hid hY
      have HYS := Lib.hid hYs
      clear hx hYs hI hlk hY
      by_cases hkt : k < t
      · have hbf := Lib.hid (show befB Y Z = true from HYY.out ▸ atA_lt (L := ZZ) (a := Z) (i := k) (by rw [HT.out]; exact hkt) hkz)
        go_wp2_with (go_at_call 150; refine (l4Before_any B C lk len c cap Y Z wr _ _ HI.out HZW.out (by omega) (by omega)).mono ?_; rw [hbf.out]; rintro e3 w3 ⟨rfl, hb3⟩; have B3 := Lib.hid (below_step BW.out hb3); clear hb3)
        go_roundg (n + 1 - (k + 1))
        case measure => omega
        case rel => exact ⟨k + 1, by omega, by omega, by go_num, B3.out⟩
      · obtain rfl : k = t := by omega
        have hbf := Lib.hid (atA_stop' HT.out HYS.out)
        by_cases hYZ : Y = Z
        · have hq2 := Lib.hid (show eqL Y Z = true from decide_eq_true hYZ)
          have HIN := Lib.hid (show insA ZZ Z = ZZ from insA_there' HT.out (hYZ ▸ HYS.out))
          clear hYZ
          go_wp2_with (fail)
          refine (l4Before_any B C lk len c cap Y Z wr _ _ HI.out HZW.out (by omega) (by omega)).mono ?_
          rw [hbf.out]
          rintro e3 w3 ⟨rfl, hb3⟩
          have B3 := Lib.hid (below_step BW.out hb3)
          have hck3 := (hb3.cell (p := ⟨g, k, none⟩) (Nat.lt_of_lt_of_le hg hsz)).trans hck
          have HI3 := Lib.hid (HI.out.next hb3)
          have HZ3 := Lib.hid (HZW.out.next hb3)
          clear hb3 hck
          go_wp2_with (fail)
          refine (l1Same_any B C lk len c cap Y Z w3 _ _ HI3.out HZ3.out (by omega) (by omega)).mono ?_
          rw [hq2.out]
          rintro e4 w4 ⟨rfl, hb4⟩
          have B4 := Lib.hid (below_step B3.out hb4)
          clear hb4 hck3
          go_wp2
          go_ret
          refine ⟨_, rfl, ?_, B4.out⟩
          rw [HIN.out]
          have := HV.out.next B4.out
          rwa [HN.out] at this
        · have hq2 := Lib.hid (show eqL Y Z = false from decide_eq_false hYZ)
          have HIN := Lib.hid (show insA ZZ Z = ZZ.take k ++ Z :: ZZ.drop k from insA_new' HT.out (fun e => hYZ (by rw [HYS.out] at e; simpa using e)))
          clear hYZ
          go_wp2_with (fail)
          refine (l4Before_any B C lk len c cap Y Z wr _ _ HI.out HZW.out (by omega) (by omega)).mono ?_
          rw [hbf.out]
          rintro e3 w3 ⟨rfl, hb3⟩
          have B3 := Lib.hid (below_step BW.out hb3)
          have hck3 := (hb3.cell (p := ⟨g, k, none⟩) (Nat.lt_of_lt_of_le hg hsz)).trans hck
          have HI3 := Lib.hid (HI.out.next hb3)
          have HZ3 := Lib.hid (HZW.out.next hb3)
          clear hb3 hck
          go_wp2_with (fail)
          refine (l1Same_any B C lk len c cap Y Z w3 _ _ HI3.out HZ3.out (by omega) (by omega)).mono ?_
          rw [hq2.out]
          rintro e4 w4 ⟨rfl, hb4⟩
          have B4 := Lib.hid (below_step B3.out hb4)
          clear hb4 hck3
          go_wp2_with (fail)
          obtain ⟨r, hr⟩ : ∃ r, n - k = r := ⟨_, rfl⟩
          obtain ⟨ZV, hZV⟩ : ∃ x, xs.take k ++ Value.slice C len cap :: xs.drop k = x := ⟨_, rfl⟩
          have hzl : ZV.length = k + 1 + r := by rw [← hZV, List.length_append, List.length_take, List.length_cons, List.length_drop, HXN.out]; omega
          have hone : ∀ u ∈ ZV, u.oneCell' = true := fun u hu => by
            rw [← hZV, List.mem_append, List.mem_cons] at hu
            rcases hu with h | rfl | h
            · exact HE.out.cells u (List.mem_of_mem_take h)
            · rfl
            · exact HE.out.cells u (List.mem_of_mem_drop h)
          have s1 : (ZV.drop 0).take k = xs.take k := by rw [List.drop_zero, ← hZV, List.take_append_of_le_length (by rw [List.length_take, HXN.out]; omega), List.take_take, Nat.min_self]
          have s2 : (ZV.drop k).take 1 = [Value.slice C len cap] := by rw [← hZV, List.drop_append_of_le_length (by rw [List.length_take, HXN.out]; omega), List.drop_eq_nil_of_le (by rw [List.length_take]; omega)]; rfl
          have s3 : (ZV.drop (k + 1)).take r = xs.drop k := by
            have e0 : ZV.drop (k + 1) = xs.drop k := by
              rw [← hZV, List.drop_append, List.drop_eq_nil_of_le (by rw [List.length_take]; omega), List.nil_append, List.length_take, HXN.out, show k + 1 - min k n = 1 by omega]
              rfl
            rw [e0, List.take_of_length_le (by rw [List.length_drop, HXN.out]; omega)]
          have HS1 := Lib.hid s1
          have HS2 := Lib.hid s2
          have HS3 := Lib.hid s3
          have HZL := Lib.hid hzl
          have HON := Lib.hid hone
          have HZV := Lib.hid hZV
          have HR := Lib.hid hr
          have hz5 : ZV.length ≤ 100000 := by omega
          have r0 : (0 : Int) ≤ (k : Int) := by omega
          have r1 : (k : Int) ≤ (n : Int) := by omega
          clear s1 s2 s3 hzl hone hZV hr
          refine wp_region_makersR (SwR w4.heap.size ZV) (fun _ _ => True) 12 lpMk (LpPhi w4.heap.size k r ZV (.slice C len cap)) (LpSh k r) (lp0 k r) probe (by kernel_rfl) (by kernel_rfl)
            SwR.refl SwR.trans (fun _ _ _ => trivial) (SwR.drew _ (Nat.le_refl _)) trivial LpPhi_stable (fun i v x _ h => LpSh_of HZL.out i v x h) (fun i _ => LpSh_zero i) ?_
          intro V hV vs hvs
          obtain ⟨g0, e0⟩ := (hvs 0 rfl).p0 rfl
          obtain ⟨g4, c4, e4⟩ := (hvs 4 rfl).p4 rfl
          obtain ⟨g6, e6⟩ := (hvs 6 rfl).p6 rfl
          obtain ⟨g7, c7, e7⟩ := (hvs 7 rfl).p7 rfl
          obtain ⟨g11, c11, e11⟩ := (hvs 11 rfl).p11 rfl
          have iRV : Nonempty (ExtR (SwR w4.heap.size ZV) V) := ⟨⟨V, SwR.refl V⟩⟩
          have cW : ∃ x, extCR (SwR w4.heap.size ZV) V x := ⟨V, extCR_of (SwR.refl V)⟩
          have KD := Lib.hid (show ∀ x, extCR (SwR w4.heap.size ZV) V x → Below w4.heap.size w4 x from fun x ⟨u, hu⟩ => by rw [hu]; exact hV.1.trans u.rel.1)
          have KX := Lib.hid (show ∀ x, extCR (SwR w4.heap.size ZV) V x → Below w.heap.size w x from fun x hx => below_step B4.out (KD.out x hx))
          clear hV
          simp only [List.take_succ_cons, List.take_zero, List.drop_succ_cons, List.drop_zero]
          refine wpV_make_R rfl rfl (fun x fu hx _ _ => ?_) ?_
          · unfold makesAtR
            go_simp
            refine ⟨SwR.of_below ((Below.refl _ _).alloc (Nat.le_refl _) _) (KD.out x hx).size, trivial, ⟨fun _ => ?_, fun e => absurd e (by decide), fun e => absurd e (by decide), fun e => absurd e (by decide), fun e => absurd e (by decide)⟩⟩
            exact ⟨x.heap.size, 0, rfl, (KD.out x hx).size, by simp, Nat.le_refl _, by unfold maxLen; omega, fun _ => rfl, fun j hj => absurd hj (by omega), fun j y hy => by simp at hy⟩
          rw [e0]
          go_simp
          refine wpV_quietR cW 3 _ _ _ (by decide) (by decide) (fun o ho => plainS_noEnter (List.all_eq_true.1 (by rfl) o ho)) ?_
          simp only [List.take_succ_cons, List.take_zero, List.drop_succ_cons, List.drop_zero]
          repeat (go_big_quiet_step (fail))
          refine wpQuiet_nil ?_
          refine wpV_make_R rfl rfl (fun x fu hx _ hd => ?_) ?_
          · have hv := (hd ⟨0, .data⟩ (by simp) rfl rfl).p0 rfl
            rw [e0] at hv
            refine makesR_mono (makes_sw (.tmp 33) (.tmp 36) rfl w4.heap.size k (q - 0) 0 ⟨g, 0, none⟩ ZV _ x rfl hv (by go_simp; try simp [sliced, Addr.add]) (fun j u hu => ?_) (by rw [HZL.out]; omega) HON.out hz5 (KD.out x hx).size) fun v x' h => ⟨fun e => absurd e (by decide), fun _ => by rwa [Nat.zero_add] at h, fun e => absurd e (by decide), fun e => absurd e (by decide), fun e => absurd e (by decide)⟩
            rw [HS1.out, List.getElem?_take] at hu
            split at hu
            · have e : (⟨g, 0, none⟩ : Addr).add j = ⟨g, j, none⟩ := by rw [add_at, Nat.zero_add]
              rw [e]
              exact ((KX.out x hx).cell (p := ⟨g, j, none⟩) hg).trans (HC.out j u hu)
            · cases hu
          rw [e4]
          go_simp
          refine wpV_quietR cW 1 _ _ _ (by decide) (by decide) (fun o ho => plainS_noEnter (List.all_eq_true.1 (by rfl) o ho)) ?_
          simp only [List.take_succ_cons, List.take_zero, List.drop_succ_cons, List.drop_zero]
          repeat (go_big_quiet_step (fail))
          refine wpQuiet_nil ?_
          refine wpV_make_R rfl rfl (fun x fu hx _ _ => ?_) ?_
          · unfold makesAtR
            go_simp
            refine ⟨SwR.of_below ((Below.refl _ _).alloc (Nat.le_refl _) _) (KD.out x hx).size, trivial, ⟨fun e => absurd e (by decide), fun e => absurd e (by decide), fun _ => ⟨x.heap.size, rfl, by simp, ?_⟩, fun e => absurd e (by decide), fun e => absurd e (by decide)⟩⟩
            exact (Blk.new x _ _).cell 0
          rw [e6]
          go_simp
          refine wpV_make_R rfl rfl (fun x fu hx _ hd => ?_) ?_
          · have hv := (hd ⟨4, .data⟩ (by simp) rfl rfl).p4 rfl
            rw [e4] at hv
            obtain ⟨g6', e6', hg6, hc6⟩ := (hd ⟨6, .data⟩ (by simp) rfl rfl).p6 rfl
            rw [e6] at e6'
            simp only [Value.slice.injEq, Option.some.injEq, Addr.mk.injEq, and_true] at e6'
            subst e6'
            refine makesR_mono (makes_sw (.tmp 37) (.tmp 39) rfl w4.heap.size 1 1 k ⟨g6, 0, none⟩ ZV _ x rfl hv rfl (fun j u hu => ?_) (by rw [HZL.out]; omega) HON.out hz5 (KD.out x hx).size) fun v x' h => ⟨fun e => absurd e (by decide), fun e => absurd e (by decide), fun e => absurd e (by decide), fun _ => h, fun e => absurd e (by decide)⟩
            rw [HS2.out] at hu
            have hj : j = 0 := by have := (List.getElem?_eq_some_iff.1 hu).1; simp at this; omega
            subst hj
            simp at hu
            subst hu
            have e : (⟨g6, 0, none⟩ : Addr).add 0 = ⟨g6, 0, none⟩ := by rw [add_at]
            rw [e]
            exact hc6
          rw [e7]
          go_simp
          refine wpV_quietR cW 3 _ _ _ (by decide) (by decide) (fun o ho => plainS_noEnter (List.all_eq_true.1 (by rfl) o ho)) ?_
          simp only [List.take_succ_cons, List.take_zero, List.drop_succ_cons, List.drop_zero]
          repeat (go_big_quiet_step (fail))
          refine wpQuiet_nil ?_
          refine wpV_make_R rfl rfl (fun x fu hx _ hd => ?_) ?_
          · have hv := (hd ⟨7, .data⟩ (by simp) rfl rfl).p7 rfl
            rw [e7] at hv
            refine makesR_mono (makes_sw (.tmp 40) (.tmp 43) rfl w4.heap.size r (q - k) (k + 1) (if q = k then ⟨g, 0, none⟩ else ⟨g, k, none⟩) ZV _ x rfl hv (by have hrr := HR.out; go_simp; (try simp [sliced, Addr.add, hrr]); (intro hq5; omega)) (fun j u hu => ?_) (by rw [HZL.out]; omega) HON.out hz5 (KD.out x hx).size) fun v x' h => ⟨fun e => absurd e (by decide), fun e => absurd e (by decide), fun e => absurd e (by decide), fun e => absurd e (by decide), fun _ => h⟩
            rw [HS3.out, List.getElem?_drop] at hu
            have hjn : k + j < xs.length := (List.getElem?_eq_some_iff.1 hu).1
            rw [HXN.out] at hjn
            rw [if_neg (by omega)]
            have e : (⟨g, k, none⟩ : Addr).add j = ⟨g, k + j, none⟩ := add_at _ _ _
            rw [e]
            exact ((KX.out x hx).cell (p := ⟨g, k + j, none⟩) hg).trans (HC.out _ u hu)
          rw [e11]
          go_simp
          refine wpV_nilR ?_
          intro w1 hR1 hphi
          have hfin := (hphi 11 (by decide) rfl).p11 rfl
          rw [e11, ← HZL.out, List.take_length] at hfin
          have B1 := Lib.hid (below_step B4.out hR1.1)
          have HF := Lib.hid hfin
          clear hR1 hvs hfin hphi
          go_wp2
          all_goals
            go_ret
            refine ⟨.slice (some ⟨g11, 0, none⟩) (k + 1 + r) c11, rfl, ?_, B1.out⟩
            rw [HIN.out]
            obtain ⟨g', c', ev, w1', w2, w3, _, _, _, w5⟩ := HF.out
            have hEL : EL D w1 ZV (ZZ.take k ++ Z :: ZZ.drop k) := by
              rw [← HZV.out]
              exact ((HE.out.next B1.out).take k).app ((EL.one (HZ.out.next B1.out) hc hl).app ((HE.out.next B1.out).drop k))
            rw [HZL.out] at ev
            exact ⟨g', c', ZV, by rw [ev, ← hEL.1, HZL.out], w2, by rw [← hEL.1]; exact w3, w5, hEL, by have := B4.out.size; omega⟩
    · obtain rfl : k = n := by omega
      obtain rfl : t = k := by omega
      have HIN := Lib.hid (show insA ZZ Z = ZZ.take t ++ Z :: ZZ.drop t from insA_new' HT.out (fun e => by
        have := (List.getElem?_eq_some_iff.1 e).1
        have := HN.out
        omega))
      go_wp2_with (fail)
      obtain ⟨r, hr⟩ : ∃ r, t - t = r := ⟨_, rfl⟩
      obtain ⟨ZV, hZV⟩ : ∃ x, xs.take t ++ Value.slice C len cap :: xs.drop t = x := ⟨_, rfl⟩
      have hzl : ZV.length = t + 1 + r := by rw [← hZV, List.length_append, List.length_take, List.length_cons, List.length_drop, HXN.out]; omega
      have hone : ∀ u ∈ ZV, u.oneCell' = true := fun u hu => by
        rw [← hZV, List.mem_append, List.mem_cons] at hu
        rcases hu with h | rfl | h
        · exact HE.out.cells u (List.mem_of_mem_take h)
        · rfl
        · exact HE.out.cells u (List.mem_of_mem_drop h)
      have s1 : (ZV.drop 0).take t = xs.take t := by rw [List.drop_zero, ← hZV, List.take_append_of_le_length (by rw [List.length_take, HXN.out]; omega), List.take_take, Nat.min_self]
      have s2 : (ZV.drop t).take 1 = [Value.slice C len cap] := by rw [← hZV, List.drop_append_of_le_length (by rw [List.length_take, HXN.out]; omega), List.drop_eq_nil_of_le (by rw [List.length_take]; omega)]; rfl
      have s3 : (ZV.drop (t + 1)).take r = xs.drop t := by
        have e0 : ZV.drop (t + 1) = xs.drop t := by
          rw [← hZV, List.drop_append, List.drop_eq_nil_of_le (by rw [List.length_take]; omega), List.nil_append, List.length_take, HXN.out, show t + 1 - min t t = 1 by omega]
          rfl
        rw [e0, List.take_of_length_le (by rw [List.length_drop, HXN.out]; omega)]
      have HS1 := Lib.hid s1
      have HS2 := Lib.hid s2
      have HS3 := Lib.hid s3
      have HZL := Lib.hid hzl
      have HON := Lib.hid hone
      have HZV := Lib.hid hZV
      have HR := Lib.hid hr
      have hz5 : ZV.length ≤ 100000 := by omega
      have r0 : (0 : Int) ≤ (t : Int) := by omega
      have r1 : (t : Int) ≤ (t : Int) := by omega
      clear s1 s2 s3 hzl hone hZV hr
      refine wp_region_makersR (SwR wr.heap.size ZV) (fun _ _ => True) 12 lpMk (LpPhi wr.heap.size t r ZV (.slice C len cap)) (LpSh t r) (lp0 t r) probe (by kernel_rfl) (by kernel_rfl)
        SwR.refl SwR.trans (fun _ _ _ => trivial) (SwR.drew _ (Nat.le_refl _)) trivial LpPhi_stable (fun i v x _ h => LpSh_of HZL.out i v x h) (fun i _ => LpSh_zero i) ?_
      intro V hV vs hvs
      obtain ⟨g0, e0⟩ := (hvs 0 rfl).p0 rfl
      obtain ⟨g4, c4, e4⟩ := (hvs 4 rfl).p4 rfl
      obtain ⟨g6, e6⟩ := (hvs 6 rfl).p6 rfl
      obtain ⟨g7, c7, e7⟩ := (hvs 7 rfl).p7 rfl
      obtain ⟨g11, c11, e11⟩ := (hvs 11 rfl).p11 rfl
      have iRV : Nonempty (ExtR (SwR wr.heap.size ZV) V) := ⟨⟨V, SwR.refl V⟩⟩
      have cW : ∃ x, extCR (SwR wr.heap.size ZV) V x := ⟨V, extCR_of (SwR.refl V)⟩
      have KD := Lib.hid (show ∀ x, extCR (SwR wr.heap.size ZV) V x → Below wr.heap.size wr x from fun x ⟨u, hu⟩ => by rw [hu]; exact hV.1.trans u.rel.1)
      have KX := Lib.hid (show ∀ x, extCR (SwR wr.heap.size ZV) V x → Below w.heap.size w x from fun x hx => below_step BW.out (KD.out x hx))
      clear hV
      simp only [List.take_succ_cons, List.take_zero, List.drop_succ_cons, List.drop_zero]
      refine wpV_make_R rfl rfl (fun x fu hx _ _ => ?_) ?_
      · unfold makesAtR
        go_simp
        refine ⟨SwR.of_below ((Below.refl _ _).alloc (Nat.le_refl _) _) (KD.out x hx).size, trivial, ⟨fun _ => ?_, fun e => absurd e (by decide), fun e => absurd e (by decide), fun e => absurd e (by decide), fun e => absurd e (by decide)⟩⟩
        exact ⟨x.heap.size, 0, rfl, (KD.out x hx).size, by simp, Nat.le_refl _, by unfold maxLen; omega, fun _ => rfl, fun j hj => absurd hj (by omega), fun j y hy => by simp at hy⟩
      rw [e0]
      go_simp
      refine wpV_quietR cW 3 _ _ _ (by decide) (by decide) (fun o ho => plainS_noEnter (List.all_eq_true.1 (by rfl) o ho)) ?_
      simp only [List.take_succ_cons, List.take_zero, List.drop_succ_cons, List.drop_zero]
      repeat (go_big_quiet_step (fail))
      refine wpQuiet_nil ?_
      refine wpV_make_R rfl rfl (fun x fu hx _ hd => ?_) ?_
      · have hv := (hd ⟨0, .data⟩ (by simp) rfl rfl).p0 rfl
        rw [e0] at hv
        refine makesR_mono (makes_sw (.tmp 33) (.tmp 36) rfl wr.heap.size t (q - 0) 0 ⟨g, 0, none⟩ ZV _ x rfl hv (by go_simp; try simp [sliced, Addr.add]) (fun j u hu => ?_) (by rw [HZL.out]; omega) HON.out hz5 (KD.out x hx).size) fun v x' h => ⟨fun e => absurd e (by decide), fun _ => by rwa [Nat.zero_add] at h, fun e => absurd e (by decide), fun e => absurd e (by decide), fun e => absurd e (by decide)⟩
        rw [HS1.out, List.getElem?_take] at hu
        split at hu
        · have e : (⟨g, 0, none⟩ : Addr).add j = ⟨g, j, none⟩ := by rw [add_at, Nat.zero_add]
          rw [e]
          exact ((KX.out x hx).cell (p := ⟨g, j, none⟩) hg).trans (HC.out j u hu)
        · cases hu
      rw [e4]
      go_simp
      refine wpV_quietR cW 1 _ _ _ (by decide) (by decide) (fun o ho => plainS_noEnter (List.all_eq_true.1 (by rfl) o ho)) ?_
      simp only [List.take_succ_cons, List.take_zero, List.drop_succ_cons, List.drop_zero]
      repeat (go_big_quiet_step (fail))
      refine wpQuiet_nil ?_
      refine wpV_make_R rfl rfl (fun x fu hx _ _ => ?_) ?_
      · unfold makesAtR
        go_simp
        refine ⟨SwR.of_below ((Below.refl _ _).alloc (Nat.le_refl _) _) (KD.out x hx).size, trivial, ⟨fun e => absurd e (by decide), fun e => absurd e (by decide), fun _ => ⟨x.heap.size, rfl, by simp, ?_⟩, fun e => absurd e (by decide), fun e => absurd e (by decide)⟩⟩
        exact (Blk.new x _ _).cell 0
      rw [e6]
      go_simp
      refine wpV_make_R rfl rfl (fun x fu hx _ hd => ?_) ?_
      · have hv := (hd ⟨4, .data⟩ (by simp) rfl rfl).p4 rfl
        rw [e4] at hv
        obtain ⟨g6', e6', hg6, hc6⟩ := (hd ⟨6, .data⟩ (by simp) rfl rfl).p6 rfl
        rw [e6] at e6'
        simp only [Value.slice.injEq, Option.some.injEq, Addr.mk.injEq, and_true] at e6'
        subst e6'
        refine makesR_mono (makes_sw (.tmp 37) (.tmp 39) rfl wr.heap.size 1 1 t ⟨g6, 0, none⟩ ZV _ x rfl hv rfl (fun j u hu => ?_) (by rw [HZL.out]; omega) HON.out hz5 (KD.out x hx).size) fun v x' h => ⟨fun e => absurd e (by decide), fun e => absurd e (by decide), fun e => absurd e (by decide), fun _ => h, fun e => absurd e (by decide)⟩
        rw [HS2.out] at hu
        have hj : j = 0 := by have := (List.getElem?_eq_some_iff.1 hu).1; simp at this; omega
        subst hj
        simp at hu
        subst hu
        have e : (⟨g6, 0, none⟩ : Addr).add 0 = ⟨g6, 0, none⟩ := by rw [add_at]
        rw [e]
        exact hc6
      rw [e7]
      go_simp
      refine wpV_quietR cW 3 _ _ _ (by decide) (by decide) (fun o ho => plainS_noEnter (List.all_eq_true.1 (by rfl) o ho)) ?_
      simp only [List.take_succ_cons, List.take_zero, List.drop_succ_cons, List.drop_zero]
      repeat (go_big_quiet_step (fail))
      refine wpQuiet_nil ?_
      refine wpV_make_R rfl rfl (fun x fu hx _ hd => ?_) ?_
      · have hv := (hd ⟨7, .data⟩ (by simp) rfl rfl).p7 rfl
        rw [e7] at hv
        refine makesR_mono (makes_sw (.tmp 40) (.tmp 43) rfl wr.heap.size r (q - t) (t + 1) (if q = t then ⟨g, 0, none⟩ else ⟨g, t, none⟩) ZV _ x rfl hv (by have hrr := HR.out; go_simp; have hr0 : r = 0 := (by omega); subst hr0; by_cases hqt : q = t <;> simp [hqt]) (fun j u hu => ?_) (by rw [HZL.out]; omega) HON.out hz5 (KD.out x hx).size) fun v x' h => ⟨fun e => absurd e (by decide), fun e => absurd e (by decide), fun e => absurd e (by decide), fun e => absurd e (by decide), fun _ => h⟩
        rw [HS3.out, List.getElem?_drop] at hu
        have hjn : t + j < xs.length := (List.getElem?_eq_some_iff.1 hu).1
        rw [HXN.out] at hjn
        rw [if_neg (by omega)]
        have e : (⟨g, t, none⟩ : Addr).add j = ⟨g, t + j, none⟩ := add_at _ _ _
        rw [e]
        exact ((KX.out x hx).cell (p := ⟨g, t + j, none⟩) hg).trans (HC.out _ u hu)
      rw [e11]
      go_simp
      refine wpV_nilR ?_
      intro w1 hR1 hphi
      have hfin := (hphi 11 (by decide) rfl).p11 rfl
      rw [e11, ← HZL.out, List.take_length] at hfin
      have B1 := Lib.hid (below_step BW.out hR1.1)
      have HF := Lib.hid hfin
      clear hR1 hvs hfin hphi
      go_wp2
      all_goals
        go_ret
        refine ⟨.slice (some ⟨g11, 0, none⟩) (t + 1 + r) c11, rfl, ?_, B1.out⟩
        rw [HIN.out]
        obtain ⟨g', c', ev, w1', w2, w3, _, _, _, w5⟩ := HF.out
        have hEL : EL D w1 ZV (ZZ.take t ++ Z :: ZZ.drop t) := by
          rw [← HZV.out]
          exact ((HE.out.next B1.out).take t).app ((EL.one (HZ.out.next B1.out) hc hl).app ((HE.out.next B1.out).drop t))
        rw [HZL.out] at ev
        exact ⟨g', c', ZV, by rw [ev, ← hEL.1, HZL.out], w2, by rw [← hEL.1]; exact w3, w5, hEL, by have := BW.out.size; omega⟩

end Go.Proofs.YtajoimopahibcaaGreat



/- All ideals, as the reading side finds them. -/
namespace Go.Proofs.YtajoimopahibcaaGreat
open Go.RowKit Go.Shelf
set_option maxRecDepth 100000

/-- What the list of ideals is, after the first so many elements. -/
def AlI (m : Nat) (S P : Nat → Nat) (k : Nat) (ZZ : List (List Int)) : Prop := Srt ZZ ∧ (∀ l ∈ ZZ, ∃ p, Idl m S P p ∧ l = lstP m p) ∧ ∀ a, a < k → lstP m (mulB m P a) ∈ ZZ
noncomputable def clA (m : Nat) (S : Nat → Nat) (a b : List Int) : List Int := lstP m (opsB m S (setL a) (setL b))
def ClZ (m : Nat) (S : Nat → Nat) (ZZ : List (List Int)) : Prop := ∀ a ∈ ZZ, ∀ b ∈ ZZ, clA m S a b ∈ ZZ
section
variable {m e k : Nat} {S P : Nat → Nat} {ZZ KK JJ : List (List Int)}
theorem clA_lst {p q : Nat → Bool} (hp : Idl m S P p) (hq : Idl m S P q) : clA m S (lstP m p) (lstP m q) = lstP m (opsB m S p q) := by unfold clA; rw [setL_lst hp.lt, setL_lst hq.lt]
theorem AlI.nil : AlI m S P 0 [] := ⟨List.Pairwise.nil, fun l h => absurd h (by simp), fun a h => absurd h (by omega)⟩
theorem AlI.put (h : AlI m S P k ZZ) {p : Nat → Bool} (hp : Idl m S P p) : AlI m S P k (insA ZZ (lstP m p)) := ⟨insA_srt h.1, fun l hl => by
  rcases insA_mem.1 hl with rfl | hl
  · exact ⟨p, hp, rfl⟩
  · exact h.2.1 l hl, fun a ha => insA_mem.2 (.inr (h.2.2 a ha))⟩
theorem AlI.step (R : RTab m S P e) (h : AlI m S P k ZZ) (hk : k < m) : AlI m S P (k + 1) (insA ZZ (lstP m (mulB m P k))) :=
  ⟨(h.put (R.mul_idl hk)).1, (h.put (R.mul_idl hk)).2.1, fun a ha => by
    by_cases e : a = k
    · subst e; exact insA_mem.2 (.inl rfl)
    · exact insA_mem.2 (.inr (h.2.2 a (by omega)))⟩
theorem AlI.short (h : AlI m S P k ZZ) (hm : m ≤ 16) : ZZ.length ≤ 32768 := lists_short hm (srt_nodup h.1) h.2.1
theorem AlI.pos (h : AlI m S P m ZZ) (hm : 1 ≤ m) : 1 ≤ ZZ.length := List.length_pos_of_mem (h.2.2 0 hm)
theorem AlI.all (R : RTab m S P e) (h : AlI m S P m ZZ) (hc : ClZ m S ZZ) : allL m S P = ZZ := by
  refine IsAll.eq ⟨h.1, fun l => ⟨h.2.1 l, ?_⟩⟩
  rintro ⟨p, hp, rfl⟩
  have := R.all_of (A := fun p => Idl m S P p ∧ lstP m p ∈ ZZ) (fun a ha => ⟨R.mul_idl ha, h.2.2 a ha⟩) (fun p q hp hq => ⟨R.sum_idl hp.1 hq.1, by
    have := hc _ hp.2 _ hq.2
    rwa [clA_lst hp.1 hq.1] at this⟩) hp
  exact this.2
/-- One more pair: if the list does not grow, the sum was there. -/
theorem pair_step {Z : List Int} {n j : Nat} (hn : n ≤ JJ.length) (h : JJ.length = n → JJ = KK ∧ ∀ j', j' < j → clA m S Z (KK[j']?.getD []) ∈ KK) :
    n ≤ (insA JJ (clA m S Z (KK[j]?.getD []))).length ∧ ((insA JJ (clA m S Z (KK[j]?.getD []))).length = n → insA JJ (clA m S Z (KK[j]?.getD [])) = KK ∧ ∀ j', j' < j + 1 → clA m S Z (KK[j']?.getD []) ∈ KK) := by
  obtain ⟨i1, i2, _⟩ := insA_len (L := JJ) (a := clA m S Z (KK[j]?.getD []))
  refine ⟨by omega, fun e => ?_⟩
  have e1 := i2 (by omega)
  obtain ⟨e2, h2⟩ := h (by omega)
  refine ⟨e1.trans e2, fun j' hj => ?_⟩
  by_cases ej : j' = j
  · subst ej
    have hmem : clA m S Z (KK[j']?.getD []) ∈ insA JJ (clA m S Z (KK[j']?.getD [])) := insA_mem.2 (.inl rfl)
    rw [e1, e2] at hmem
    exact hmem
  · exact h2 j' (by omega)
end

def BelN (a b : World) : Prop := Below a.heap.size a b
theorem BelN.refl (w : World) : BelN w w := Below.refl _ _
theorem BelN.trans (a b c : World) (h : BelN a b) (h' : BelN b c) : BelN a c := below_step h h'

def alMk (i : Nat) : Bool := i == 3 || i == 4 || i == 5 || i == 6 || i == 7
structure AlPhi (D : Nat) (x : Int) (U T : Array Value) (Z : List Int) (ZZ : List (List Int)) (i : Nat) (v : Value) (w : World) : Prop where
  p3 : i = 3 → ∃ g, v = .slice (some ⟨g, 0, none⟩) 1 1 ∧ Blk w g 3 #[.int .i64 x]
  p4 : i = 4 → v = .agg U
  p5 : i = 5 → v = .agg T
  p6 : i = 6 → ∃ A c, v = .slice A Z.length c ∧ Own w D A Z.length Z ∧ Z.length ≤ c
  p7 : i = 7 → LLv D w v ZZ
structure AlSh (U T : Array Value) (l n : Nat) (i : Nat) (v : Value) : Prop where
  p3 : i = 3 → ∃ g, v = .slice (some ⟨g, 0, none⟩) 1 1
  p4 : i = 4 → v = .agg U
  p5 : i = 5 → v = .agg T
  p6 : i = 6 → ∃ A c, v = .slice A l c
  p7 : i = 7 → ∃ g c, v = .slice (some ⟨g, 0, none⟩) n c
theorem AlPhi_stable {D : Nat} {x : Int} {U T : Array Value} {Z : List Int} {ZZ : List (List Int)} (i : Nat) (v : Value) (w w' : World) (h : AlPhi D x U T Z ZZ i v w) (hb : BelN w w') : AlPhi D x U T Z ZZ i v w' :=
  ⟨fun e => by obtain ⟨g, h1, h2⟩ := h.p3 e; exact ⟨g, h1, h2.next hb⟩, h.p4, h.p5, fun e => by obtain ⟨A, c, h1, h2, h3⟩ := h.p6 e; exact ⟨A, c, h1, h2.next hb, h3⟩, fun e => (h.p7 e).next hb⟩
theorem AlSh_of {D : Nat} {x : Int} {U T : Array Value} {Z : List Int} {ZZ : List (List Int)} (i : Nat) (v : Value) (w : World) (h : AlPhi D x U T Z ZZ i v w) : AlSh U T Z.length ZZ.length i v :=
  ⟨fun e => by obtain ⟨g, h1, _⟩ := h.p3 e; exact ⟨g, h1⟩, h.p4, h.p5, fun e => by obtain ⟨A, c, h1, _⟩ := h.p6 e; exact ⟨A, c, h1⟩, fun e => by obtain ⟨g, c, _, h1, _⟩ := h.p7 e; exact ⟨g, c, h1⟩⟩
def al0 (U T : Array Value) (l n : Nat) (i : Nat) : Value := if i = 3 then .slice (some ⟨0, 0, none⟩) 1 1 else if i = 4 then .agg U else if i = 5 then .agg T else if i = 6 then .slice none l 0 else .slice (some ⟨0, 0, none⟩) n 0
theorem AlSh_zero {U T : Array Value} {l n : Nat} (i : Nat) : AlSh U T l n i (al0 U T l n i) := ⟨fun e => by subst e; exact ⟨0, rfl⟩, fun e => by subst e; rfl, fun e => by subst e; rfl, fun e => by subst e; exact ⟨none, 0, rfl⟩, fun e => by subst e; exact ⟨0, 0, rfl⟩⟩

set_option maxHeartbeats 8000000 in
theorem l4All_any (m e b1 o1 la ca b2 o2 lb cb : Nat) (S P : Nat → Nat) (w : World) (hr : RingAt w m e b1 o1 la ca b2 o2 lb cb S P) (R : RTab m S P e) :
    Calls Tryz.prog 116 #[.agg #[.int .i64 m, .int .i64 e, .slice (some ⟨b1, o1, none⟩) la ca, .slice (some ⟨b2, o2, none⟩) lb cb]] w fun e' w' => ∃ v, e' = .returned v ∧ LLv w.heap.size w' v (allL m S P) ∧ Below w.heap.size w w' := by
  obtain ⟨W, hW⟩ : ∃ W, (w.alloc (.cells #[.int .i64 m, .int .i64 e, .slice (some ⟨b1, o1, none⟩) la ca, .slice (some ⟨b2, o2, none⟩) lb cb] 25)).alloc (.cells #[] 23) = W := ⟨_, rfl⟩
  have k0 : Blk W w.heap.size 25 #[.int .i64 m, .int .i64 e, .slice (some ⟨b1, o1, none⟩) la ca, .slice (some ⟨b2, o2, none⟩) lb cb] := by
    subst hW; exact (Blk.new w _ _).alloc _
  have b0 : Below w.heap.size w W := by
    subst hW; exact ((Below.refl _ _).alloc (Nat.le_refl _) _).alloc (by simp) _
  have l0 : LLv w.heap.size W (.slice (some ⟨w.heap.size + 1, 0, none⟩) 0 0) [] := by
    subst hW
    have := LLv.empty (D := w.heap.size) (w := w.alloc (.cells #[.int .i64 m, .int .i64 e, .slice (some ⟨b1, o1, none⟩) la ca, .slice (some ⟨b2, o2, none⟩) lb cb] 25)) (t := 23) (by simp)
    rwa [World.size_alloc] at this
  have hm' := hr.hm'
  have hm := hr.hm
  have HR0 := Lib.hid hr
  have K0 := Lib.hid k0
  have B0 := Lib.hid b0
  have L0 := Lib.hid l0
  have HW := Lib.hid hW
  obtain ⟨c0, c1, c2, c3⟩ := blk4 k0
  clear hr b0 k0 l0 hW
  go_enter Tryz.func116, Tryz.ntmps116
  go_upto_region 2 with (fail)
  rw [HW.out]
  go_wp2
  go_loopg [3, 13] m (fun g2 vs vi wr => ∃ k : Nat, k ≤ m ∧ m ≤ k + g2 ∧ vi = .int .i64 k ∧ Below w.heap.size w wr ∧ Blk wr w.heap.size 25 #[.int .i64 m, .int .i64 e, .slice (some ⟨b1, o1, none⟩) la ca, .slice (some ⟨b2, o2, none⟩) lb cb] ∧ ∃ ZZ, LLv w.heap.size wr vs ZZ ∧ AlI m S P k ZZ)
  case atStart => exact ⟨0, Nat.zero_le _, by omega, rfl, B0.out, K0.out, [], L0.out, AlI.nil⟩
  case round =>
    obtain ⟨k, hk, hg2, rfl, hb, hbk, ZZ, hll, hal⟩ := hrel
    have BW := Lib.hid hb
    have KW := Lib.hid hbk
    have HLL := Lib.hid hll
    have HAL := Lib.hid hal
    have hsh := hal.short hm'
    have hsz := hb.size
    have hgw := hbk.lt
    clear hb hll hal c0 c1 c2 c3
    by_cases hlt : k < m
    · obtain ⟨x, hx⟩ : ∃ x : Fin m, x.1 = k := ⟨⟨k, hlt⟩, rfl⟩
      obtain ⟨g, q, xs, rfl, _⟩ := HLL.out
      obtain ⟨n, hn⟩ : ∃ x, ZZ.length = x := ⟨_, rfl⟩
      have HN := Lib.hid hn
      rw [hn] at HLL hsh ⊢
      obtain ⟨Z, hZ⟩ : ∃ Z, lstP m (mulB m P k) = Z := ⟨_, rfl⟩
      have hZl : Z.length ≤ 16 := by rw [← hZ]; exact Nat.le_trans lst_le hm'
      obtain ⟨l, hl⟩ : ∃ l, Z.length = l := ⟨_, rfl⟩
      rw [hl] at hZl
      obtain ⟨nn, hnn⟩ : ∃ x, (insA ZZ Z).length = x := ⟨_, rfl⟩
      have HZ := Lib.hid hZ
      have HL := Lib.hid hl
      have HNN := Lib.hid hnn
      have HX := Lib.hid hx
      have HST := Lib.hid (show AlI m S P (k + 1) (insA ZZ Z) by rw [← hZ]; exact HAL.out.step R hlt)
      obtain ⟨U, hU⟩ : ∃ U, setP (memB (finN [x])) = U := ⟨_, rfl⟩
      obtain ⟨T, hT⟩ : ∃ T, setP (mulB m P k) = T := ⟨_, rfl⟩
      have HU := Lib.hid hU
      have HT := Lib.hid hT
      have HSG := Lib.hid (show setP (genB m S P (memB (finN [x]))) = T by rw [← hT, ← hx]; exact congrArg setP (R.gen_one x.2))
      have HML := Lib.hid (R.mul_idl hlt)
      clear hn hZ hl hnn hx hU hT hbk
      go_upto_region 5 with (fail)
      go_simp
      refine wp_region_makersR BelN (fun _ _ => True) 8 alMk (AlPhi w.heap.size (k : Int) U T Z (insA ZZ Z)) (AlSh U T l nn) (al0 U T l nn) probe (by kernel_rfl) (by kernel_rfl)
        BelN.refl BelN.trans (fun _ _ _ => trivial) (Below.refl _ _).drew trivial AlPhi_stable (fun i v x _ h => by have := AlSh_of i v x h; rwa [HL.out, HNN.out] at this) (fun i _ => AlSh_zero i) ?_
      intro V hV vs hvs
      obtain ⟨g3, e3⟩ := (hvs 3 rfl).p3 rfl
      have e4 := (hvs 4 rfl).p4 rfl
      have e5 := (hvs 5 rfl).p5 rfl
      obtain ⟨A6, q6, e6⟩ := (hvs 6 rfl).p6 rfl
      obtain ⟨g7, q7, e7⟩ := (hvs 7 rfl).p7 rfl
      have iRV : Nonempty (ExtR BelN V) := ⟨⟨V, BelN.refl V⟩⟩
      have cW : ∃ x, extCR BelN V x := ⟨V, extCR_of (BelN.refl V)⟩
      have KD := Lib.hid (show ∀ x, extCR BelN V x → Below wr.heap.size wr x from fun x ⟨u, hu⟩ => by rw [hu]; exact below_step hV u.rel)
      have KX := Lib.hid (show ∀ x, extCR BelN V x → Below w.heap.size w x from fun x hx => below_step BW.out (KD.out x hx))
      have KB := Lib.hid (show ∀ u : ExtR BelN V, Blk (extR BelN V u) w.heap.size 25 #[.int .i64 m, .int .i64 e, .slice (some ⟨b1, o1, none⟩) la ca, .slice (some ⟨b2, o2, none⟩) lb cb] from fun u => KW.out.next (KD.out _ ⟨u, rfl⟩))
      have f0 := fun u => (KB.out u).cell 0
      have f1 := fun u => (KB.out u).cell 1
      have f2 := fun u => (KB.out u).cell 2
      have f3 := fun u => (KB.out u).cell 3
      simp at f0 f1 f2 f3
      clear hV
      simp only [List.take_succ_cons, List.take_zero, List.drop_succ_cons, List.drop_zero]
      refine wpV_quietR cW 3 0 _ _ (by decide) (by decide) (fun o ho => plain_noEnter (List.all_eq_true.1 (by rfl) o ho)) ?_
      simp only [List.take_succ_cons, List.take_zero, List.drop_succ_cons, List.drop_zero]
      go_big_quiet_step (fail)
      refine wpQuiet_load_row rfl 25 (.tmp 1) rfl w.heap.size rfl _ #[.int .i64 m, .int .i64 e, .slice (some ⟨b1, o1, none⟩) la ca, .slice (some ⟨b2, o2, none⟩) lb cb] _ (fun x ⟨u, hu⟩ => by rw [hu]; exact KB.out u) Tryz.underlying25 rfl (by kernel_rfl) ?_
      go_simp
      go_big_quiet_step (fail)
      refine wpQuiet_nil ?_
      refine wpV_make_R rfl rfl (fun y fu hy _ _ => ?_) ?_
      · unfold makesAtR
        go_simp
        exact ⟨(Below.refl _ _).alloc (Nat.le_refl _) _, trivial, ⟨fun _ => ⟨_, rfl, Blk.new _ _ _⟩, fun e => absurd e (by decide), fun e => absurd e (by decide), fun e => absurd e (by decide), fun e => absurd e (by decide)⟩⟩
      rw [e3]
      go_simp
      refine wpV_make_R rfl rfl (fun y fu hy _ hd => ?_) ?_
      · obtain ⟨g', q1, hB⟩ := (hd ⟨3, .data⟩ (by simp) rfl rfl).p3 rfl
        rw [e3] at q1
        simp only [Value.slice.injEq, Option.some.injEq, Addr.mk.injEq, and_true] at q1
        subst q1
        unfold makesAtR
        go_simp
        refine ⟨rfl, (l4Of_any m (some ⟨g3, 0, none⟩) 1 1 [x] y hm' (ints_blk1 (by rw [HX.out]; exact hB)) (by omega)).mono ?_⟩
        rintro _ y' ⟨rfl, hb⟩
        exact ⟨_, rfl, hb, trivial, ⟨fun e => absurd e (by decide), fun _ => by rw [HU.out], fun e => absurd e (by decide), fun e => absurd e (by decide), fun e => absurd e (by decide)⟩⟩
      rw [e4]
      go_simp
      refine wpV_make_R rfl rfl (fun y fu hy _ hd => ?_) ?_
      · unfold makesAtR
        go_simp
        rw [← HU.out]
        refine ⟨rfl, (l4Closed_any _ m e b1 o1 la ca b2 o2 lb cb S P y (HR0.out.next (KX.out y hy)) R (one_lt x)).mono ?_⟩
        rintro _ y' ⟨rfl, hb⟩
        exact ⟨_, rfl, hb, trivial, ⟨fun e => absurd e (by decide), fun e => absurd e (by decide), fun _ => by rw [HSG.out], fun e => absurd e (by decide), fun e => absurd e (by decide)⟩⟩
      rw [e5]
      go_simp
      refine wpV_make_R rfl rfl (fun y fu hy _ hd => ?_) ?_
      · unfold makesAtR
        go_simp
        rw [← HT.out]
        refine ⟨rfl, (l3SetP_any (mulB m P k) m y hm' HML.out.lt).mono ?_⟩
        rintro _ y' ⟨v, rfl, ⟨A, l', c', rfl, ho, hc1, _⟩, hb⟩
        rw [HZ.out] at ho
        obtain rfl := ho.1
        exact ⟨_, rfl, hb, trivial, ⟨fun e => absurd e (by decide), fun e => absurd e (by decide), fun e => absurd e (by decide), fun _ => ⟨A, c', rfl, ho.down (KX.out y hy).size, hc1⟩, fun e => absurd e (by decide)⟩⟩
      rw [e6]
      go_simp
      refine wpV_make_R rfl rfl (fun y fu hy _ hd => ?_) ?_
      · obtain ⟨A', c', q1, hI, hc1⟩ := (hd ⟨6, .data⟩ (by simp) rfl rfl).p6 rfl
        rw [e6] at q1
        simp only [Value.slice.injEq] at q1
        obtain ⟨rfl, hl2, rfl⟩ := q1
        rw [← hl2] at hI hc1
        clear hl2
        unfold makesAtR
        go_simp
        refine ⟨rfl, (l4Put_any w.heap.size _ ZZ A6 l q6 Z y (KX.out y hy).size (HLL.out.next (KD.out y hy)) hI hc1 (by omega) (by rw [HN.out]; omega)).mono ?_⟩
        rintro _ y' ⟨v, rfl, hll, hb⟩
        exact ⟨_, rfl, hb, trivial, ⟨fun e => absurd e (by decide), fun e => absurd e (by decide), fun e => absurd e (by decide), fun e => absurd e (by decide), fun _ => hll⟩⟩
      rw [e7]
      go_simp
      refine wpV_nilR ?_
      intro w1 hR1 hphi
      have hfin := (hphi 7 (by decide) rfl).p7 rfl
      rw [e7] at hfin
      have B1 := Lib.hid (below_step BW.out hR1)
      have K1 := Lib.hid (KW.out.next hR1)
      have HF := Lib.hid hfin
      clear hR1 hvs hfin hphi f0 f1 f2 f3
      go_wp2
      go_roundg (m - (k + 1))
      case measure => omega
      case rel => exact ⟨k + 1, by omega, by omega, by go_num, B1.out, K1.out, insA ZZ Z, HF.out, HST.out⟩
    · obtain rfl : k = m := by omega
      go_wp2
      go_loopg [3, 5] 32769 (fun g2 vs vn wr => ∃ (nn : Nat) (ZZ : List (List Int)), vn = .int .i64 nn ∧ LLv w.heap.size wr vs ZZ ∧ AlI k S P k ZZ ∧ nn ≤ ZZ.length ∧ 32769 ≤ nn + g2 ∧ (nn = 0 ∨ (nn = ZZ.length → ClZ k S ZZ)) ∧ Below w.heap.size w wr ∧ Blk wr w.heap.size 25 #[.int .i64 k, .int .i64 e, .slice (some ⟨b1, o1, none⟩) la ca, .slice (some ⟨b2, o2, none⟩) lb cb])
      case atStart => exact ⟨0, ZZ, rfl, HLL.out, HAL.out, Nat.zero_le _, by omega, .inl rfl, BW.out, KW.out⟩
      case round =>
        clear hsh HLL HAL BW KW
        obtain ⟨wz, rfl⟩ : ∃ x, x = wr := ⟨_, rfl⟩
        obtain ⟨nn, ZZ, rfl, hll, hal, hnz, hg3, hcl, hb, hbk⟩ := hrel
        have hsh := hal.short hm'
        have hps := hal.pos hm
        have BW := Lib.hid hb
        have KW := Lib.hid hbk
        have HLL := Lib.hid hll
        have HAL := Lib.hid hal
        have HCL := Lib.hid hcl
        clear hb hbk hll hal hcl
        obtain ⟨g, q, xs, rfl, hgl, hnq, hcs, hel, _⟩ := HLL.out
        have HCS := Lib.hid hcs
        have HEL := Lib.hid hel
        obtain ⟨n0, hn⟩ : ∃ x, ZZ.length = x := ⟨_, rfl⟩
        have HN := Lib.hid hn
        rw [hn] at HLL hsh hps hnz hnq ⊢
        clear hn hcs hel
        by_cases hend : nn = n0
        · subst hend
          have tt : ((nn : Int) != (nn : Int)) = false := by simp
          have HFIN := Lib.hid (HAL.out.all R ((HCL.out.resolve_left (by omega)) HN.out.symm))
          go_wp2
          go_ret
          refine ⟨.slice (some ⟨g, 0, none⟩) nn q, by rfl, ?_, BW.out⟩
          rw [HFIN.out]
          exact HLL.out
        · have tt : ((nn : Int) != (n0 : Int)) = true := by rw [bne_iff_ne]; omega
          go_wp2
          go_loopg [3, 33] n0 (fun g4 vs vi wr => ∃ (i : Nat) (KK : List (List Int)), vi = .int .i64 i ∧ i ≤ n0 ∧ n0 ≤ i + g4 ∧ LLv w.heap.size wr vs KK ∧ AlI k S P k KK ∧ n0 ≤ KK.length ∧ (KK.length = n0 → KK = ZZ ∧ ∀ i', i' < i → ∀ b ∈ ZZ, clA k S (ZZ[i']?.getD []) b ∈ ZZ) ∧ Below wz.heap.size wz wr)
          case atStart => exact ⟨0, ZZ, rfl, Nat.zero_le _, by omega, HLL.out, HAL.out, by rw [HN.out]; exact Nat.le_refl _, fun _ => ⟨rfl, fun i' h => absurd h (by omega)⟩, Below.refl _ _⟩
          case round =>
            obtain ⟨wy, rfl⟩ : ∃ x, x = wr := ⟨_, rfl⟩
            obtain ⟨i, KK, rfl, hi, hg4, hll, hal, hnk, hcl, hb⟩ := hrel
            have hshK := hal.short hm'
            have BY := Lib.hid hb
            have HLK := Lib.hid hll
            have HAK := Lib.hid hal
            have HCK := Lib.hid hcl
            have hszy := hb.size
            clear hb hll hal hcl
            by_cases hlt2 : i < n0
            · obtain ⟨Zi, hZi⟩ : ∃ Z, ZZ[i]? = some Z := ⟨_, List.getElem?_eq_getElem (by rw [HN.out]; exact hlt2)⟩
              obtain ⟨p, hp, hpe⟩ := HAL.out.2.1 Zi (List.mem_of_getElem? hZi)
              obtain ⟨Bi, ci, hx1, hx2, hx3, hx4⟩ := HEL.out.2 i Zi hZi
              obtain ⟨li, hli⟩ : ∃ x, Zi.length = x := ⟨_, rfl⟩
              rw [hli] at hx1 hx2 hx3 hx4
              have hli16 : li ≤ 16 := by rw [← hli, hpe]; exact Nat.le_trans lst_le hm'
              have hli1 : 1 ≤ li := by rw [← hli, hpe, lst_len]; exact sel_pos hp.z hm
              have hck : wy.cell? ⟨g, i, none⟩ = some (.slice Bi li ci) := (BY.out.cell (p := ⟨g, i, none⟩) hgl).trans (HCS.out i _ hx1)
              have HIP := Lib.hid hp
              have HZI := Lib.hid (show Ints wz wz.heap.size Bi li (finI (selTo k p k)) by rw [hpe] at hx4; exact hx4.ints)
              have HZP := Lib.hid hpe
              have HZS := Lib.hid hZi
              obtain ⟨gA, qA, xA, rfl, hgA, hkq, hcs, hel, _⟩ := HLK.out
              have HCK2 := Lib.hid hcs
              have HEK := Lib.hid hel
              obtain ⟨nk, hn⟩ : ∃ x, KK.length = x := ⟨_, rfl⟩
              have HNK := Lib.hid hn
              rw [hn] at HLK hshK hnk hkq ⊢
              clear hx1 hx4 hp hpe hZi hli hn hcs hel
              go_wp2
              go_loopg [3, 39] nk (fun g5 vs vj wr => ∃ (j : Nat) (JJ : List (List Int)), vj = .int .i64 j ∧ j ≤ nk ∧ nk ≤ j + g5 ∧ LLv w.heap.size wr vs JJ ∧ AlI k S P k JJ ∧ nk ≤ JJ.length ∧ (JJ.length = nk → JJ = KK ∧ ∀ j', j' < j → clA k S Zi (KK[j']?.getD []) ∈ KK) ∧ Below wy.heap.size wy wr)
              case atStart => exact ⟨0, KK, rfl, Nat.zero_le _, by omega, HLK.out, HAK.out, by rw [HNK.out]; exact Nat.le_refl _, fun _ => ⟨rfl, fun j' h => absurd h (by omega)⟩, Below.refl _ _⟩
              case round =>
                obtain ⟨j, JJ, rfl, hj, hg5, hll, hal, hnj, hcl, hb⟩ := hrel
                have hshJ := hal.short hm'
                have BJ := Lib.hid hb
                have HLJ := Lib.hid hll
                have HAJ := Lib.hid hal
                have HCJ := Lib.hid hcl
                have hszj := hb.size
                clear hb hll hal hcl hck
                by_cases hlt3 : j < nk
                · obtain ⟨Zj, hZj⟩ : ∃ Z, KK[j]? = some Z := ⟨_, List.getElem?_eq_getElem (by rw [HNK.out]; exact hlt3)⟩
                  obtain ⟨q', hq', hqe⟩ := HAK.out.2.1 Zj (List.mem_of_getElem? hZj)
                  obtain ⟨Bj, cj, hy1, hy2, hy3, hy4⟩ := HEK.out.2 j Zj hZj
                  obtain ⟨lj, hlj⟩ : ∃ x, Zj.length = x := ⟨_, rfl⟩
                  rw [hlj] at hy1 hy2 hy3 hy4
                  have hlj16 : lj ≤ 16 := by rw [← hlj, hqe]; exact Nat.le_trans lst_le hm'
                  have hlj1 : 1 ≤ lj := by rw [← hlj, hqe, lst_len]; exact sel_pos hq'.z hm
                  have hck : wr.cell? ⟨gA, j, none⟩ = some (.slice Bj lj cj) := (BJ.out.cell (p := ⟨gA, j, none⟩) hgA).trans (HCK2.out j _ hy1)
                  have HZJ := Lib.hid (show Ints wy wy.heap.size Bj lj (finI (selTo k q' k)) by rw [hqe] at hy4; exact hy4.ints)
                  have BWJ := Lib.hid (below_step BW.out (below_step BY.out BJ.out))
                  obtain ⟨d0, d1, d2, d3⟩ := blk4 (KW.out.next (below_step BY.out BJ.out))
                  have HSU := Lib.hid (show lstP k (genB k S P (memB (finN (selTo k p k ++ selTo k q' k)))) = clA k S Zi (KK[j]?.getD []) by
                    rw [finN_app, memB_app, memB_sel HIP.out.lt, memB_sel hq'.lt, R.gen_sum HIP.out hq', hZj, HZP.out]
                    simp only [Option.getD_some]
                    rw [hqe, clA_lst HIP.out hq'])
                  have HNX := Lib.hid (pair_step hnj HCJ.out)
                  have HPT := Lib.hid (show AlI k S P k (insA JJ (clA k S Zi (KK[j]?.getD []))) by
                    rw [hZj, HZP.out]
                    simp only [Option.getD_some]
                    rw [hqe, clA_lst HIP.out hq']
                    exact HAJ.out.put (R.sum_idl HIP.out hq'))
                  obtain ⟨gj, qj, xj, rfl, hgj, hjq, _⟩ := HLJ.out
                  obtain ⟨nj, hn⟩ : ∃ x, JJ.length = x := ⟨_, rfl⟩
                  have HNJ := Lib.hid hn
                  rw [hn] at HLJ hshJ hjq ⊢
                  clear hy1 hy4 hq' hqe hZj hlj hn
                  go_wp2_with (first
                    | (go_at_call 47; refine (l4Sum_any Bi Bj li lj ci cj k e b1 o1 la ca b2 o2 lb cb S P wr (HR0.out.next BWJ.out) (selTo k p k) (selTo k q' k) R (HZI.out.next (below_step BY.out BJ.out)) (HZJ.out.next BJ.out) hli1 hlj1 (by omega) (by omega)).mono ?_; rw [HSU.out]; rintro e3 w3 ⟨v3, rfl, ⟨A3, l3, c3, rfl, o3, hc3, hl3⟩, hb3⟩; have I3 := Lib.hid (o3.down (D' := w.heap.size) (by have := BW.out.size; have := BY.out.size; have := BJ.out.size; omega)); have B3 := Lib.hid (below_step BJ.out hb3); have HL3 := Lib.hid (HLJ.out.next hb3); clear hb3 o3)
                    | (go_at_call 140; refine (l4Put_any w.heap.size _ JJ A3 l3 c3 _ w3 (by have := BW.out.size; have := BY.out.size; have := B3.out.size; omega) HL3.out I3.out hc3 hl3 (by rw [HNJ.out]; omega)).mono ?_; rintro e4 w4 ⟨v4, rfl, hl4, hb4⟩; have B4 := Lib.hid (below_step B3.out hb4); have HL4 := Lib.hid hl4; clear hb4 hl4))
                  go_roundg (nk - (j + 1))
                  case measure => omega
                  case rel => exact ⟨j + 1, _, by go_num, by omega, by omega, HL4.out, HPT.out, HNX.out.1, HNX.out.2, B4.out⟩
                · obtain rfl : j = nk := by omega
                  obtain ⟨gj, qj, xj, rfl, hgj, hjq, _⟩ := HLJ.out
                  go_wp2
                  go_roundg (n0 - (i + 1))
                  case measure => omega
                  case rel =>
                    refine ⟨i + 1, JJ, by go_num, by omega, by omega, HLJ.out, HAJ.out, by omega, fun e1 => ?_, below_step BY.out BJ.out⟩
                    have e2 : j = n0 := by omega
                    obtain ⟨e3, h3⟩ := HCJ.out (by omega)
                    obtain ⟨e4, h4⟩ := HCK.out (by rw [HNK.out]; exact e2)
                    refine ⟨e3.trans e4, fun i' hi' b hb => ?_⟩
                    by_cases ei : i' = i
                    · subst ei
                      rw [← e4] at hb
                      obtain ⟨j', hj', hbe⟩ := List.getElem_of_mem hb
                      have h5 := h3 j' (by rw [← HNK.out]; exact hj')
                      rw [List.getElem?_eq_getElem hj', Option.getD_some, hbe, e4] at h5
                      rw [HZS.out]
                      exact h5
                    · exact h4 i' (by omega) b hb
            · obtain rfl : i = n0 := by omega
              obtain ⟨gA, qA, xA, rfl, hgA, hkq, _⟩ := HLK.out
              go_wp2
              go_roundg (32769 - i)
              case measure => omega
              case rel =>
                refine ⟨i, KK, by go_num, HLK.out, HAK.out, hnk, by omega, .inr fun e1 => ?_, below_step BW.out BY.out, KW.out.next BY.out⟩
                obtain ⟨e2, h2⟩ := HCK.out e1.symm
                rw [e2]
                intro a ha b hb
                obtain ⟨i', hi', rfl⟩ := List.getElem_of_mem ha
                have h5 := h2 i' (by rw [← HN.out]; exact hi') b hb
                rwa [List.getElem?_eq_getElem hi', Option.getD_some] at h5

end Go.Proofs.YtajoimopahibcaaGreat



/- AllIdeals of the reading side. -/
namespace Go.Proofs.YtajoimopahibcaaGreat
open Go.RowKit Go.Shelf
set_option maxRecDepth 100000

/-- All ideals of a ring, none of what is no ring. -/
noncomputable def alsL (n o : Int) (X Y : List Int) : List (List Int) := @ite _ (validB n o X Y = true) (Classical.propDecidable _) (allL n.toNat (tabOf X) (tabOf Y)) []
theorem als_no {n o : Int} {X Y : List Int} (h : ¬ validB n o X Y = true) : alsL n o X Y = [] := @if_neg _ (Classical.propDecidable _) h _ _ _
theorem als_yes {m e : Nat} {X Y : List Int} (h : validB m e X Y = true) : alsL m e X Y = allL m (tabOf X) (tabOf Y) := @if_pos _ (Classical.propDecidable _) h _ _ _
/-- There is such a list. -/
theorem RTab.isAll {m e : Nat} {S P : Nat → Nat} (_R : RTab m S P e) (hm : m ≤ 16) : IsAll m S P (allL m S P) := by
  have key : ∀ N L, Srt L → (∀ l ∈ L, ∃ p, Idl m S P p ∧ l = lstP m p) → 32769 ≤ L.length + N → ∃ L', IsAll m S P L' := fun N => by
    induction N with
    | zero => intro L h1 h2 h3; have := lists_short hm (srt_nodup h1) h2; omega
    | succ N ih =>
      intro L h1 h2 h3
      by_cases hc : ∀ p, Idl m S P p → lstP m p ∈ L
      · exact ⟨L, h1, fun l => ⟨h2 l, fun ⟨p, hp, e⟩ => e ▸ hc p hp⟩⟩
      · obtain ⟨p, hp⟩ := Classical.not_forall.1 hc
        obtain ⟨hp1, hp2⟩ := Classical.not_imp.1 hp
        refine ih (insA L (lstP m p)) (insA_srt h1) (fun l hl => ?_) ?_
        · rcases insA_mem.1 hl with rfl | hl
          · exact ⟨p, hp1, rfl⟩
          · exact h2 l hl
        · obtain ⟨i1, i2, _⟩ := insA_len (L := L) (a := lstP m p)
          have : (insA L (lstP m p)).length ≠ L.length := fun e => hp2 (by
            have := i2 e
            rw [← this]
            exact insA_mem.2 (.inl rfl))
          omega
  obtain ⟨L', h⟩ := key 32769 [] List.Pairwise.nil (fun l h => absurd h (by simp)) (by simp)
  exact h.eq ▸ h
theorem als_facts {n o : Int} {A B : Option Addr} {la ca lb cb : Nat} {X Y : List Int} {w : World} (hX : Ints w w.heap.size A la X) (hY : Ints w w.heap.size B lb Y) (hca : la ≤ ca) (hcb : lb ≤ cb) :
    (alsL n o X Y).length ≤ 32768 ∧ ∀ (i : Nat) (Z : List Int), (alsL n o X Y)[i]? = some Z → 0 < Z.length ∧ Z.length ≤ 16 := by
  by_cases hv : validB n o X Y = true
  · obtain ⟨m, e, b1, o1, b2, o2, rfl, rfl, rfl, rfl, hr, _, _, _, _, _⟩ := valid_data hv hX hY hca hcb
    have R := rtab_of_valid hv
    have hI := R.isAll hr.hm'
    rw [als_yes hv]
    refine ⟨lists_short hr.hm' (srt_nodup hI.1) (fun l hl => (hI.2 l).1 hl), fun i Z hZ => ?_⟩
    obtain ⟨p, hp, rfl⟩ := (hI.2 Z).1 (List.mem_of_getElem? hZ)
    exact ⟨by rw [lst_len]; exact sel_pos hp.z hr.hm, Nat.le_trans lst_le hr.hm'⟩
  · rw [als_no hv]
    exact ⟨by simp, fun i Z h => by simp at h⟩

end Go.Proofs.YtajoimopahibcaaGreat

