
/- IsField: the plain facts; sets that are compared; the program's set.has and its test of what is not 0. -/
import Derived.Test.YtocoegekdamlbaaI6
namespace Go.Proofs.Ytocoegekdamlbaa
open Go.RowKit Go.Shelf
set_option maxRecDepth 100000

section
variable {m e : Nat} {S P : Nat → Nat}
/-- 0 times anything is 0. -/
theorem mul_zero_ (hP : ∀ k, k < m * m → P k < m) (h1 : OpLaw m S 0) (hd : DistLaw m S P) (hn : NegLaw m S) {c : Nat} (hc : c < m) : P (c * m + 0) = 0 := by
  have hm : 0 < m := by omega
  have h0 : P (c * m + 0) < m := hP _ (idx_lt hc hm)
  have e1 : P (c * m + 0) = S (P (c * m + 0) * m + P (c * m + 0)) := by
    have := hd c hc 0 hm 0 hm
    unfold Dist3 at this
    have hz : S (0 * m + 0) = 0 := h1.zero hm
    rw [hz] at this
    exact this
  have e2 : S (0 * m + P (c * m + 0)) = P (c * m + 0) := by rw [h1.comm hm h0]; exact h1.zero h0
  exact sum_inj h1 hn h0 h0 hm (by rw [← e1, e2])
/-- In a ring of more than one element 0 is no unit. -/
theorem zero_no_unit (hP : ∀ k, k < m * m → P k < m) (h1 : OpLaw m S 0) (h2 : OpLaw m P e) (he : e < m) (hd : DistLaw m S P) (hn : NegLaw m S) (hm : 1 < m) : unitB m P e 0 = false := by
  unfold unitB
  rw [decide_eq_false_iff_not, inv_unit]
  rintro ⟨c, hc, h⟩
  have z1 : P (0 * m + c) = 0 := by rw [h2.comm (by omega) hc]; exact mul_zero_ hP h1 hd hn hc
  have z2 : e = 0 := by rw [← h, z1]
  subst z2
  have z3 := h2.zero (show 1 < m from hm)
  rw [mul_zero_ hP h1 hd hn hm] at z3
  omega
/-- In the ring of one element 0 is a unit. -/
theorem one_unit (hP : ∀ k, k < m * m → P k < m) (he : e < m) (hm : m = 1) : unitB m P e 0 = true := by
  unfold unitB
  rw [decide_eq_true_iff, inv_unit]
  refine ⟨0, by omega, ?_⟩
  have := hP (0 * m + 0) (by subst hm; decide)
  omega
end

section
variable {m : Nat} {p q : Nat → Bool}
theorem selTo_mono (h : ∀ a, a < m → p a = true → q a = true) : ∀ k, k ≤ m → (selTo m p k).length ≤ (selTo m q k).length
  | 0, _ => Nat.le_refl _
  | k + 1, hk => by
    have ih := selTo_mono h k (by omega)
    cases hp : p k
    · rw [selTo_no hp]
      cases hq : q k
      · rw [selTo_no hq]; exact ih
      · rw [selTo_yes (by omega) hq]; simp; omega
    · rw [selTo_yes (by omega) hp, selTo_yes (by omega) (h k (by omega) hp)]; simp; omega
theorem selTo_same_len (h : ∀ a, a < m → p a = true → q a = true) : ∀ k, k ≤ m → (selTo m p k).length = (selTo m q k).length → ∀ a, a < k → p a = q a
  | 0, _, _, a, ha => absurd ha (by omega)
  | k + 1, hk, e, a, ha => by
    have mo := selTo_mono h k (by omega)
    have key : p k = q k ∧ (selTo m p k).length = (selTo m q k).length := by
      cases hp : p k
      · rw [selTo_no hp] at e
        cases hq : q k
        · rw [selTo_no hq] at e; exact ⟨rfl, e⟩
        · rw [selTo_yes (by omega) hq] at e; simp at e; omega
      · have hq := h k (by omega) hp
        rw [selTo_yes (by omega) hp, selTo_yes (by omega) hq] at e
        simp at e
        exact ⟨hq.symm, e⟩
    rcases Nat.lt_succ_iff_lt_or_eq.1 ha with h1 | rfl
    · exact selTo_same_len h k (by omega) key.2 a h1
    · exact key.1
theorem selTo_congr (h : ∀ a, a < m → p a = q a) : ∀ k, k ≤ m → selTo m p k = selTo m q k
  | 0, _ => rfl
  | k + 1, hk => by
    have ih := selTo_congr h k (by omega)
    have hk' := h k (by omega)
    cases hq : q k
    · rw [selTo_no hq, selTo_no (by rw [hk', hq]), ih]
    · rw [selTo_yes (by omega) hq, selTo_yes (by omega) (by rw [hk', hq]), ih]
theorem selTo_mem {i : Nat} : ∀ k, k ≤ m → (i ∈ finN (selTo m p k) ↔ i < k ∧ p i = true)
  | 0, _ => by simp [selTo, finN]
  | k + 1, hk => by
    have ih := selTo_mem (i := i) k (by omega)
    cases hp : p k
    · rw [selTo_no hp, ih]
      constructor
      · rintro ⟨h1, h2⟩; exact ⟨by omega, h2⟩
      · rintro ⟨h1, h2⟩
        refine ⟨?_, h2⟩
        rcases Nat.lt_succ_iff_lt_or_eq.1 h1 with h3 | rfl
        · exact h3
        · rw [hp] at h2; cases h2
    · rw [selTo_yes (by omega) hp]
      simp only [finN, List.map_append, List.map_cons, List.map_nil, List.mem_append, List.mem_singleton]
      rw [show i ∈ List.map (fun x => x.1) (selTo m p k) ↔ i < k ∧ p i = true from ih]
      constructor
      · rintro (⟨h1, h2⟩ | rfl)
        · exact ⟨by omega, h2⟩
        · exact ⟨by omega, hp⟩
      · rintro ⟨h1, h2⟩
        rcases Nat.lt_succ_iff_lt_or_eq.1 h1 with h3 | rfl
        · exact .inl ⟨h3, h2⟩
        · exact .inr rfl
end
def notZ (a : Nat) : Bool := decide (a ≠ 0)
theorem notZ_len {m : Nat} : ∀ k, k ≤ m → (selTo m notZ k).length = k - 1
  | 0, _ => rfl
  | 1, _ => by rw [selTo_no (by decide)]; rfl
  | k + 2, hk => by
    rw [selTo_yes (by omega) (by simp [notZ])]
    have := notZ_len (m := m) (k + 1) (by omega)
    simp [this]
/-- Two sets have the same elements. -/
def sameA (l1 l2 : List Nat) : Bool := decide (∀ i, i ∈ List.range 16 → (i ∈ l1 ↔ i ∈ l2))
noncomputable def fieldB (m : Nat) (P : Nat → Nat) (e : Nat) : Bool := decide (1 < m) && decide ((selTo m (unitB m P e) m).length = m - 1)
theorem field_same {m e : Nat} {S P : Nat → Nat} (hm : 1 ≤ m) (hm' : m ≤ 16) (hP : ∀ k, k < m * m → P k < m) (h1 : OpLaw m S 0) (h2 : OpLaw m P e) (he : e < m) (hd : DistLaw m S P) (hn : NegLaw m S) :
    sameA (finN (selTo m (kindB m P e 0) m)) (finN (selTo m notZ m)) = fieldB m P e := by
  have hk : ∀ a, kindB m P e 0 a = unitB m P e a := fun a => rfl
  rw [selTo_congr (fun a _ => hk a) m (Nat.le_refl _)]
  rw [Bool.eq_iff_iff]
  unfold sameA fieldB
  rw [decide_eq_true_iff, Bool.and_eq_true, decide_eq_true_iff, decide_eq_true_iff]
  constructor
  · intro h
    have h' : ∀ a, a < m → unitB m P e a = notZ a := fun a ha => by
      have := h a (List.mem_range.2 (by omega))
      rw [selTo_mem m (Nat.le_refl _), selTo_mem m (Nat.le_refl _)] at this
      rw [Bool.eq_iff_iff]
      constructor
      · intro g; exact (this.1 ⟨ha, g⟩).2
      · intro g; exact (this.2 ⟨ha, g⟩).2
    have h0 := h' 0 (by omega)
    refine ⟨?_, ?_⟩
    · rcases Nat.lt_or_ge 1 m with g | g
      · exact g
      · rw [one_unit hP he (by omega)] at h0
        exact absurd h0 (by decide)
    · rw [selTo_congr h' m (Nat.le_refl _), notZ_len m (Nat.le_refl _)]
  · rintro ⟨g1, g2⟩
    have z := zero_no_unit hP h1 h2 he hd hn g1
    have imp : ∀ a, a < m → unitB m P e a = true → notZ a = true := fun a _ hu => by
      unfold notZ
      rw [decide_eq_true_iff]
      intro q
      rw [q, z] at hu
      cases hu
    have h' := selTo_same_len imp m (Nat.le_refl _) (by rw [g2, notZ_len m (Nat.le_refl _)])
    intro i _
    rw [selTo_mem m (Nat.le_refl _), selTo_mem m (Nat.le_refl _)]
    constructor
    · rintro ⟨a, b⟩; exact ⟨a, by rw [← h' i a]; exact b⟩
    · rintro ⟨a, b⟩; exact ⟨a, by rw [h' i a]; exact b⟩

theorem eq_items {w : World} {l1 l2 : List Nat} : ∀ is : List Nat, (∀ i ∈ is, i < 16) → (Op.eqItems 9999 4 1 (setA l1) (setA l2) is).run Try.prog w = .ok (decide (∀ i, i ∈ is → (i ∈ l1 ↔ i ∈ l2))) w
  | [], _ => by simp [Op.eqItems]
  | i :: is, h => by
    have hi := h i (by simp)
    have g1 := setA_get (l := l1) hi
    have g2 := setA_get (l := l2) hi
    have p1 := run_part_plain (P := Try.prog) (w := w) (e := 4) (by kernel_rfl) (off := i * 1) (by rw [Nat.mul_one]; exact g1)
    have p2 := run_part_plain (P := Try.prog) (w := w) (e := 4) (by kernel_rfl) (off := i * 1) (by rw [Nat.mul_one]; exact g2)
    have ih := eq_items (w := w) (l1 := l1) (l2 := l2) is (fun j hj => h j (by simp [hj]))
    simp only [Op.eqItems, Sem.run_bind, p1, p2, Result.andThen_ok, run_equalIn_bool w 9998 4 _ _ Try.underlying4]
    by_cases e : (i ∈ l1 ↔ i ∈ l2)
    · have e' : (decide (i ∈ l1) == decide (i ∈ l2)) = true := by
        rw [beq_iff_eq]; exact decide_eq_decide.2 e
      simp only [e', Bool.not_true, Bool.false_eq_true, if_false, ih]
      congr 1
      rw [decide_eq_decide]
      exact ⟨fun g j hj => (List.mem_cons.1 hj).elim (fun q => q ▸ e) (fun q => g j q), fun g j hj => g j (List.mem_cons_of_mem _ hj)⟩
    · have e' : (decide (i ∈ l1) == decide (i ∈ l2)) = false := by
        rw [beq_eq_false_iff_ne]; exact fun q => e (decide_eq_decide.1 q)
      simp only [e', Bool.not_false, if_true, Sem.run_pure]
      congr 1
      symm
      rw [decide_eq_false_iff_not]
      exact fun g => e (g i List.mem_cons_self)
theorem eq_set (w : World) (l1 l2 : List Nat) : (Op.equalIn 10000 69 (.agg (setA l1)) (.agg (setA l2))).run Try.prog w = .ok (sameA l1 l2) w := by
  obtain ⟨i0, hi, _⟩ := info_parts (P := Try.prog) (show (Try.prog.info? 4).map (fun i => (i.zero, i.size, i.bytes)) = some (some (.bool false), 1, 1) by kernel_rfl)
  have h := run_equalIn_array (P := Try.prog) (w := w) 9999 (setA l1) (setA l2) Try.underlying69 hi
  have hc : Try.prog.cellsOf 4 = 1 := by kernel_rfl
  rw [hc] at h
  exact h.trans (eq_items (List.range 16) (fun i hi => List.mem_range.1 hi))

theorem notZero_any (a : Nat) (w : World) : Calls Try.prog 78 (#[].push (.int .i64 a)) w fun e w' => e = .returned (.bool (notZ a)) ∧ Below w.heap.size w w' := by
  unfold notZ
  by_cases h : a = 0
  · subst h
    go_enter Try.func78, Try.ntmps78
    go_wp2
    go_ret
    exact ⟨rfl, Below.refl _ _⟩
  · have tt : ((a : Int) != 0) = true := by rw [bne_iff_ne]; omega
    have h' : decide (a ≠ 0) = true := decide_eq_true h
    rw [h']
    clear h h'
    go_enter Try.func78, Try.ntmps78
    go_wp2
    go_ret
    exact ⟨rfl, Below.refl _ _⟩

theorem setHas_any (l : List Nat) (a : Nat) (w : World) (ha : a < 16) : Calls Try.prog 77 (#[.agg (setA l)].push (.int .i64 a)) w fun e w' => e = .returned (.bool (decide (a ∈ l))) ∧ Below w.heap.size w w' := by
  have h0 : (0 : Int) ≤ (a : Int) := by omega
  have h1 : (a : Int) < 16 := by omega
  have hg := setA_get (l := l) ha
  obtain ⟨b, hb⟩ : ∃ b, decide (a ∈ l) = b := ⟨_, rfl⟩
  rw [hb] at hg ⊢
  obtain ⟨S, hS⟩ : ∃ S, setA l = S := ⟨_, rfl⟩
  rw [hS] at hg ⊢
  have hc : (w.alloc (.cells S 69)).cell? ⟨w.heap.size, a, none⟩ = some (.bool b) := ((Blk.new w _ _).cell a).trans hg
  clear hb hS
  go_enter Try.func77, Try.ntmps77
  go_wp2
  go_ret
  exact ⟨rfl, (Below.refl _ _).alloc (Nat.le_refl _) _⟩

end Go.Proofs.Ytocoegekdamlbaa
