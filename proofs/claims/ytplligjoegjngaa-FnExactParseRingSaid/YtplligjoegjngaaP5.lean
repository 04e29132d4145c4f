/- Plain facts: a text tells its ring. -/
import Derived.Test.YtplligjoegjngaaP4
namespace Go.Proofs.Ytplligjoegjngaa
open Go.RowKit
set_option maxRecDepth 100000

theorem digI_dig {t : Nat} (h : t < 16) : digI (dig t) = t := by
  have g : ∀ t : Fin 16, digI (dig t.val) = (t.val : Int) := by decide
  exact g ⟨t, h⟩
theorem dig_ne {t : Nat} (h : t < 16) : dig t ≠ 47 ∧ dig t ≠ 32 := by
  have g : ∀ t : Fin 16, dig t.val ≠ 47 ∧ dig t.val ≠ 32 := by decide
  exact g ⟨t, h⟩

section
variable {m : Nat} {T : Nat → Nat}
theorem rows_length (hm : 1 ≤ m) : ∀ a, (rowsTo m T ((a + 1) * m)).length + 1 = (a + 1) * (m + 1)
  | 0 => by
    rw [← mid_full hm]
    simp [midTo, rowsTo]
  | a + 1 => by
    have ih := rows_length hm a
    rw [← mid_full hm]
    unfold midTo
    simp only [List.length_append, List.length_map, List.length_range, Nat.zero_lt_succ, if_true, List.length_cons, List.length_nil]
    have e : (a + 1 + 1) * (m + 1) = (a + 1) * (m + 1) + (m + 1) := Nat.succ_mul _ _
    omega
theorem rows_full (hm : 1 ≤ m) : (rowsTo m T (m * m)).length + 1 = m * (m + 1) := by
  obtain ⟨a, ha⟩ : ∃ a, m = a + 1 := ⟨m - 1, by omega⟩
  have := rows_length (T := T) hm a
  rw [← ha] at this
  exact this
theorem rows_prefix : ∀ k d, rowsTo m T k <+: rowsTo m T (k + d)
  | k, 0 => List.prefix_refl _
  | k, d + 1 => by
    refine (rows_prefix k d).trans ?_
    rw [show k + (d + 1) = (k + d) + 1 by omega, rowsTo_succ, List.append_assoc]
    exact List.prefix_append _ _
theorem mid_head (hm : 1 ≤ m) (a : Nat) : (rowsTo m T (a * m) ++ (if 0 < a then [47] else [])).length = a * (m + 1) := by
  rcases a with _ | a
  · simp [rowsTo]
  · have := rows_length (T := T) hm a
    simp
    omega
theorem rows_get (hm : 1 ≤ m) {a b : Nat} (ha : a < m) (hb : b < m) : (rowsTo m T (m * m))[a * (m + 1) + b]? = some (dig (T (a * m + b))) := by
  have h1 : (a + 1) * m ≤ m * m := Nat.mul_le_mul_right _ ha
  obtain ⟨d, hd⟩ : ∃ d, m * m = (a + 1) * m + d := ⟨m * m - (a + 1) * m, by omega⟩
  have hp := rows_prefix (m := m) (T := T) ((a + 1) * m) d
  rw [← hd, ← mid_full hm] at hp
  have hl := mid_head (T := T) hm a
  have hlen : (midTo m T a m).length = a * (m + 1) + m := by
    unfold midTo
    rw [List.length_append, hl]
    simp
  obtain ⟨r, hr⟩ := hp
  rw [← hr, List.getElem?_append_left (by omega)]
  unfold midTo
  rw [List.getElem?_append_right (by omega), hl, show a * (m + 1) + b - a * (m + 1) = b by omega, List.getElem?_map, List.getElem?_range hb]
  rfl
theorem rows_digits {k : Nat} (h : ∀ j, j < k → T j < 16) : ∀ c ∈ rowsTo m T k, c = 47 ∨ ∃ j, j < k ∧ c = dig (T j) := by
  induction k with
  | zero => intro c hc; simp [rowsTo] at hc
  | succ k ih =>
    intro c hc
    rw [rowsTo_succ, List.mem_append, List.mem_append] at hc
    rcases hc with (hc | hc) | hc
    · rcases ih (fun j hj => h j (by omega)) c hc with h1 | ⟨j, hj, e⟩
      · exact .inl h1
      · exact .inr ⟨j, by omega, e⟩
    · left
      split at hc
      · simpa using hc
      · simp at hc
    · exact .inr ⟨k, by omega, by simpa using hc⟩
theorem rows_no_space {k : Nat} (h : ∀ j, j < k → T j < 16) : ∀ c ∈ rowsTo m T k, c ≠ 32 := by
  intro c hc
  rcases rows_digits h c hc with rfl | ⟨j, hj, rfl⟩
  · decide
  · exact (dig_ne (h j hj)).2
theorem tbl_rows {k : Nat} (h : ∀ j, j < k → T j < 16) : tblL (rowsTo m T k) = (List.range k).map fun j => (T j : Int) := by
  induction k with
  | zero => simp [rowsTo, tblL]
  | succ k ih =>
    have hk := h k (by omega)
    rw [rowsTo_succ, tblL_snoc, if_neg (dig_ne hk).1, digI_dig hk, List.range_succ, List.map_append]
    congr 1
    by_cases hc : 0 < k ∧ k % m = 0
    · rw [if_pos hc, tblL_snoc, if_pos rfl, List.append_nil]
      exact ih fun j hj => h j (by omega)
    · rw [if_neg hc, List.append_nil]
      exact ih fun j hj => h j (by omega)
/-- The first slash stands behind the first row. -/
theorem first_slash (hm : 1 ≤ m) (h : ∀ j, j < m * m → T j < 16) : Lib.indexByte (rowsTo m T (m * m) ++ [47]) 47 = m := by
  have e0 : rowsTo m T m = (List.range m).map fun j => dig (T j) := by
    have := mid_full (m := m) (a := 0) (T := T) hm
    rw [Nat.zero_add, Nat.one_mul] at this
    rw [← this]
    simp [midTo, rowsTo]
  have hmm : m ≤ m * m := Nat.le_mul_of_pos_left m hm
  have hp : rowsTo m T m ++ [47] <+: rowsTo m T (m * m) ++ [47] := by
    by_cases h1 : m = 1
    · subst h1
      exact List.prefix_refl _
    · obtain ⟨d, hd⟩ : ∃ d, m * m = m + 1 + d := by
        have : 2 * m ≤ m * m := Nat.mul_le_mul_right _ (by omega)
        exact ⟨m * m - (m + 1), by omega⟩
      have h2 := rows_prefix (m := m) (T := T) (m + 1) d
      rw [← hd, rowsTo_succ, if_pos ⟨by omega, Nat.mod_self m⟩] at h2
      exact ((List.prefix_append _ _).trans h2).trans (List.prefix_append _ _)
  obtain ⟨r, hr⟩ := hp
  have hl : (rowsTo m T m).length = m := by rw [e0]; simp
  refine find_hit 47 _ m ?_ fun j hj => ?_
  · rw [← hr, List.append_assoc, List.getElem?_append_right (by omega), hl]
    simp
  · rw [← hr, List.append_assoc, List.getElem?_append_left (by omega), e0, List.getElem?_map, List.getElem?_range hj]
    have := (dig_ne (h j (by omega))).1
    simpa using this
end

end Go.Proofs.Ytplligjoegjngaa
