
import Derived.Test.YtajoimopahibcaaGreatMQ
/- Plain facts: the number of elements of a sum of two ideals times that of their meet is the product of theirs. No program in sight. -/
namespace Go.Proofs.YtajoimopahibcaaGreat
open Go.RowKit

/-- A list is as long as the list of values times the number of elements of each value. -/
theorem fibersN {c : Nat} (g : Nat → Nat) : ∀ (K L : List Nat), K.Nodup → (∀ x ∈ L, g x ∈ K) → (∀ k ∈ K, (L.filter fun x => decide (g x = k)).length = c) → L.length = c * K.length
  | [], L, _, h, _ => by
    cases L with
    | nil => rfl
    | cons x L => exact absurd (h x (by simp)) (by simp)
  | k :: K, L, hK, h, hf => by
    have hk := List.nodup_cons.1 hK
    have e1 : L.length = (L.filter fun x => decide (g x = k)).length + (L.filter fun x => !decide (g x = k)).length := by
      rw [List.length_eq_countP_add_countP (fun x => decide (g x = k)), List.countP_eq_length_filter, List.countP_eq_length_filter]
      congr 3
      funext y
      simp
    have e2 := fibersN (c := c) g K (L.filter fun x => !decide (g x = k)) hk.2 (fun x hx => by
      rw [List.mem_filter] at hx
      rcases List.mem_cons.1 (h x hx.1) with h1 | h1
      · simp [h1] at hx
      · exact h1) (fun k' hk' => by
      rw [List.filter_filter, ← hf k' (List.mem_cons_of_mem _ hk')]
      congr 1
      apply List.filter_congr
      intro x _
      have hne : k' ≠ k := fun e => hk.1 (e ▸ hk')
      by_cases h1 : g x = k'
      · simp [h1, hne]
      · simp [h1])
    rw [e1, hf k (by simp), e2, List.length_cons, Nat.mul_succ]
    omega

section
variable {m e : Nat} {S P : Nat → Nat} {p q : Nat → Bool}
theorem elsN_nodup {q : Nat → Bool} : (finN (selTo m q m)).Nodup := by
  unfold finN
  have h2 := selTo_nodup m (p := q) (Nat.le_refl m)
  unfold List.Nodup at h2 ⊢
  rw [List.pairwise_map]
  exact h2.imp fun h e => h (Fin.ext e)
theorem elsN_len {q : Nat → Bool} : (finN (selTo m q m)).length = (lstP m q).length := by rw [lst_len]; unfold finN; rw [List.length_map]
/-- A class has as many elements as the ideal. -/
theorem RTab.cos_len (R : RTab m S P e) (hp : Idl m S P p) {a : Nat} (ha : a < m) : (finN (selTo m (cosB m S p a) m)).length = (lstP m p).length := by
  rw [← elsN_len]
  obtain ⟨c, hc, _, hc0⟩ := R.negEx ha
  have back : ∀ b, b < m → S (c * m + S (a * m + b)) = b := fun b hb => by
    rw [← R.Aas hc ha hb, R.Acs hc ha, hc0, R.Acs R.hm hb, R.A00 hb]
  have hperm : (finN (selTo m (cosB m S p a) m)).Perm ((finN (selTo m p m)).map fun b => S (a * m + b)) := by
    refine (List.perm_ext_iff_of_nodup elsN_nodup ?_).2 fun x => ?_
    · unfold List.Nodup
      rw [List.pairwise_map]
      have h0 : (finN (selTo m p m)).Pairwise (· ≠ ·) := elsN_nodup
      refine List.Pairwise.imp_of_mem ?_ h0
      intro b b' hb hb' hne e1
      refine hne ?_
      rw [← back b (lst_in.1 hb).1, ← back b' (lst_in.1 hb').1, e1]
    · rw [lst_in, List.mem_map]
      constructor
      · rintro ⟨_, h⟩
        obtain ⟨b, hb, rfl⟩ := cos_iff.1 h
        exact ⟨b, lst_in.2 ⟨hp.lt b hb, hb⟩, rfl⟩
      · rintro ⟨b, hb, rfl⟩
        have := lst_in.1 hb
        exact ⟨R.sc ha this.1, cos_iff.2 ⟨b, this.2, rfl⟩⟩
  rw [hperm.length_eq, List.length_map]
end
end Go.Proofs.YtajoimopahibcaaGreat

