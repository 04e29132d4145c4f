
import Derived.Test.YtdhjcgbaaghnoaaMQ
/- Plain facts: the number of elements of a sum of two ideals times that of their meet is the product of theirs. No program in sight. -/
namespace Go.Proofs.Ytdhjcgbaaghnoaa
open Go.RowKit

/-- A list is as long as the list of values times the number of elements of each value. -/
theorem fibersN {c : Nat} (g : Nat → Nat) : ∀ (K L : List Nat), K.Nodup → (∀ x ∈ L, g x ∈ K) → (∀ k ∈ K, (L.filter fun x => decide (g x = k)).length = c) → L.length = c * K.length
  | [], L, _, h, _ => by
    cases L with
    | nil => rfl
    | cons x L => exact absurd (h x (by simp)) (by simp)
  | k :: K, L, hK, h, hf => by
    have hk := List.nodup_cons.1 hK
    have e1 : L.length = (L.filter fun x => decide (g x = k)).length + (L.filter fun x => !decide (g x = k)).length := by
      rw [List.length_eq_countP_add_countP (fun x => decide (g x = k)), List.countP_eq_length_filter, List.countP_eq_length_filter]
      congr 3
      funext y
      simp
    have e2 := fibersN (c := c) g K (L.filter fun x => !decide (g x = k)) hk.2 (fun x hx => by
      rw [List.mem_filter] at hx
      rcases List.mem_cons.1 (h x hx.1) with h1 | h1
      · simp [h1] at hx
      · exact h1) (fun k' hk' => by
      rw [List.filter_filter, ← hf k' (List.mem_cons_of_mem _ hk')]
      congr 1
      apply List.filter_congr
      intro x _
      have hne : k' ≠ k := fun e => hk.1 (e ▸ hk')
      by_cases h1 : g x = k'
      · simp [h1, hne]
      · simp [h1])
    rw [e1, hf k (by simp), e2, List.length_cons, Nat.mul_succ]
    omega

section
variable {m e : Nat} {S P : Nat → Nat} {p q : Nat → Bool}
theorem elsN_nodup {q : Nat → Bool} : (finN (selTo m q m)).Nodup := by
  unfold finN
  have h2 := selTo_nodup m (p := q) (Nat.le_refl m)
  unfold List.Nodup at h2 ⊢
  rw [List.pairwise_map]
  exact h2.imp fun h e => h (Fin.ext e)
theorem elsN_len {q : Nat → Bool} : (finN (selTo m q m)).length = (lstP m q).length := by rw [lst_len]; unfold finN; rw [List.length_map]
theorem meet_idl (hp : Idl m S P p) (hq : Idl m S P q) : Idl m S P (fun i => p i && q i) where
  lt := fun i h => by rw [Bool.and_eq_true] at h; exact hp.lt i h.1
  z := by rw [hp.z, hq.z]; rfl
  s := fun i j hi hj => by
    rw [Bool.and_eq_true] at hi hj ⊢
    exact ⟨hp.s i j hi.1 hj.1, hq.s i j hi.2 hj.2⟩
  t := fun i j hi hj => by
    rw [Bool.and_eq_true] at hi ⊢
    exact ⟨hp.t i j hi.1 hj, hq.t i j hi.2 hj⟩
/-- A class has as many elements as the ideal. -/
theorem RTab.cos_len (R : RTab m S P e) (hp : Idl m S P p) {a : Nat} (ha : a < m) : (finN (selTo m (cosB m S p a) m)).length = (lstP m p).length := by
  rw [← elsN_len]
  obtain ⟨c, hc, _, hc0⟩ := R.negEx ha
  have back : ∀ b, b < m → S (c * m + S (a * m + b)) = b := fun b hb => by
    rw [← R.Aas hc ha hb, R.Acs hc ha, hc0, R.Acs R.hm hb, R.A00 hb]
  have hperm : (finN (selTo m (cosB m S p a) m)).Perm ((finN (selTo m p m)).map fun b => S (a * m + b)) := by
    refine (List.perm_ext_iff_of_nodup elsN_nodup ?_).2 fun x => ?_
    · unfold List.Nodup
      rw [List.pairwise_map]
      have h0 : (finN (selTo m p m)).Pairwise (· ≠ ·) := elsN_nodup
      refine List.Pairwise.imp_of_mem ?_ h0
      intro b b' hb hb' hne e1
      refine hne ?_
      rw [← back b (lst_in.1 hb).1, ← back b' (lst_in.1 hb').1, e1]
    · rw [lst_in, List.mem_map]
      constructor
      · rintro ⟨_, h⟩
        obtain ⟨b, hb, rfl⟩ := cos_iff.1 h
        exact ⟨b, lst_in.2 ⟨hp.lt b hb, hb⟩, rfl⟩
      · rintro ⟨b, hb, rfl⟩
        have := lst_in.1 hb
        exact ⟨R.sc ha this.1, cos_iff.2 ⟨b, this.2, rfl⟩⟩
  rw [hperm.length_eq, List.length_map]
/-- The classes by the second ideal in which an element of the first one lies. -/
noncomputable def clsK (m : Nat) (S : Nat → Nat) (p q : Nat → Bool) : List Nat := (leas m S q m).filter fun a => propB (∃ x, p x = true ∧ cosB m S q a x = true)
theorem RTab.idl_count (R : RTab m S P e) (hp : Idl m S P p) (hq : Idl m S P q) : (lstP m p).length = (lstP m (fun i => p i && q i)).length * (clsK m S p q).length := by
  have ex : ∀ x, x < m → ∃ a ∈ leas m S q m, cosB m S q a x = true := fun x hx => R.leas_cover hq (Nat.le_refl m) hx
  have hg : ∀ x, ∃ a, x < m → a ∈ leas m S q m ∧ cosB m S q a x = true := fun x => by
    by_cases hx : x < m
    · obtain ⟨a, h1, h2⟩ := ex x hx
      exact ⟨a, fun _ => ⟨h1, h2⟩⟩
    · exact ⟨0, fun h => absurd h hx⟩
  obtain ⟨g, hg⟩ := Classical.axiomOfChoice hg
  rw [← elsN_len]
  refine fibersN g (clsK m S p q) _ ?_ (fun x hx => ?_) fun k hk => ?_
  · exact (leas_nodup m).filter _
  · obtain ⟨x1, x2⟩ := lst_in.1 hx
    exact List.mem_filter.2 ⟨(hg x x1).1, propB_iff.2 ⟨x, x2, (hg x x1).2⟩⟩
  · obtain ⟨k1, k2⟩ := List.mem_filter.1 hk
    obtain ⟨x0, h1, h2⟩ := propB_iff.1 k2
    have x0m := hp.lt x0 h1
    have km : k < m := leas_lt k1
    rw [← R.cos_len (meet_idl hp hq) x0m]
    refine ((List.perm_ext_iff_of_nodup (elsN_nodup.filter _) elsN_nodup).2 fun x => ?_).length_eq
    rw [List.mem_filter, lst_in, lst_in, decide_eq_true_iff]
    constructor
    · rintro ⟨⟨x1, x2⟩, rfl⟩
      refine ⟨x1, ?_⟩
      have h3 := R.cos_trans hq x0m (R.cos_symm hq km h2) (hg x x1).2
      obtain ⟨b, hb, hb2⟩ := cos_iff.1 h3
      refine cos_iff.2 ⟨b, ?_, hb2⟩
      obtain ⟨c, hc, hc0⟩ := R.idl_neg hp h1
      have bm := hq.lt b hb
      have cm := hp.lt c hc
      have : S (c * m + x) = b := by
        rw [← hb2, ← R.Aas cm x0m bm, R.Acs cm x0m, hc0, R.Acs R.hm bm, R.A00 bm]
      rw [Bool.and_eq_true]
      exact ⟨this ▸ hp.s c x hc x2, hb⟩
    · rintro ⟨x1, h3⟩
      obtain ⟨b, hb, rfl⟩ := cos_iff.1 h3
      rw [Bool.and_eq_true] at hb
      refine ⟨⟨x1, hp.s x0 b h1 hb.1⟩, ?_⟩
      have h4 : cosB m S q k (S (x0 * m + b)) = true := R.cos_trans hq km h2 (cos_iff.2 ⟨b, hb.2, rfl⟩)
      exact R.leas_apart hq (Nat.le_refl m) (hg _ x1).1 k1 (hg _ x1).2 h4
/-- The number of sums times that of common elements is that of both. -/
theorem RTab.sum_meet (R : RTab m S P e) (hp : Idl m S P p) (hq : Idl m S P q) : (lstP m (opsB m S p q)).length * (lstP m (fun i => p i && q i)).length = (lstP m p).length * (lstP m q).length := by
  have hs := R.sum_idl hp hq
  have e1 : (fun i => opsB m S p q i && q i) = q := bool_ext fun i => by
    rw [Bool.and_eq_true]
    exact ⟨fun h => h.2, fun h => ⟨R.sum_right hp hq h, h⟩⟩
  have e2 : clsK m S (opsB m S p q) q = clsK m S p q := by
    unfold clsK
    refine List.filter_congr fun a ha => ?_
    rw [Bool.eq_iff_iff, propB_iff, propB_iff]
    have am : a < m := leas_lt ha
    constructor
    · rintro ⟨x, h1, h2⟩
      obtain ⟨u, v, hu, hv, rfl⟩ := opsB_iff.1 h1
      have um := hp.lt u hu
      exact ⟨u, hu, R.cos_trans hq am h2 (R.cos_symm hq um (cos_iff.2 ⟨v, hv, rfl⟩))⟩
    · rintro ⟨x, h1, h2⟩
      exact ⟨x, R.sum_left hp hq h1, h2⟩
  have c1 := R.idl_count hs hq
  have c2 := R.idl_count hp hq
  rw [e1, e2] at c1
  rw [c1, c2, Nat.mul_assoc, Nat.mul_comm, Nat.mul_comm (clsK m S p q).length]
end
end Go.Proofs.Ytdhjcgbaaghnoaa
