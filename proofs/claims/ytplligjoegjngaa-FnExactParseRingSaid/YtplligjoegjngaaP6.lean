/- Plain facts: what is read back from the text of a ring, by both sides. -/
import Derived.Test.YtplligjoegjngaaP5
namespace Go.Proofs.Ytplligjoegjngaa
open Go.RowKit
set_option maxRecDepth 100000

/-- A text is that of a ring. -/
def IsText (s : ByteArray) (n o : Int) (X Y : List Int) : Prop := validB n o X Y = true ∧ fmtV n o X Y = s
/-- What a text tells. -/
structure TextOf (s : ByteArray) (m e : Nat) (X Y : List Int) : Prop where
  hm : 1 ≤ m
  hm' : m ≤ 16
  he : e < m
  xl : X.length = m * m
  yl : Y.length = m * m
  xs : ∀ k, k < m * m → X[k]?.getD 0 = (tabOf X k : Int) ∧ tabOf X k < m
  ys : ∀ k, k < m * m → Y[k]?.getD 0 = (tabOf Y k : Int) ∧ tabOf Y k < m
  text : s.data.toList = fmtL m e (tabOf X) (tabOf Y)
theorem text_data {s : ByteArray} {n o : Int} {X Y : List Int} (h : IsText s n o X Y) : ∃ m e : Nat, n = m ∧ o = e ∧ TextOf s m e X Y := by
  have hv := h.1
  unfold validB at hv
  rw [Bool.and_eq_true] at hv
  obtain ⟨m, e, rfl, rfl, hm, hm', he, h1, h2, h3, h4⟩ := fits_data hv.1
  refine ⟨m, e, rfl, rfl, hm, hm', he, h1, h2, h3, h4, ?_⟩
  rw [← h.2, fmtV_yes h.1]
theorem list_of_tab {X : List Int} {k : Nat} (hl : X.length = k) (h : ∀ j, j < k → X[j]?.getD 0 = (tabOf X j : Int)) : (List.range k).map (fun j => (tabOf X j : Int)) = X := by
  apply List.ext_getElem (by simp [hl])
  intro j h1 h2
  have := h j (by simpa using h1)
  rw [List.getElem?_eq_getElem h2] at this
  simp at this ⊢
  exact this.symm

section
variable {s : ByteArray} {m e : Nat} {X Y : List Int}
theorem TextOf.size (h : TextOf s m e X Y) : s.size = 1 + 2 * (m * (m + 1)) := by
  have h1 := rows_full (T := tabOf X) h.hm
  have h2 := rows_full (T := tabOf Y) h.hm
  have h3 : s.data.toList.length = s.size := by simp
  rw [← h3, h.text]
  unfold fmtL
  simp only [List.length_append, List.length_cons, List.length_nil]
  omega
theorem TextOf.x16 (h : TextOf s m e X Y) : ∀ j, j < m * m → tabOf X j < 16 := fun j hj => by have := (h.xs j hj).2; have := h.hm'; omega
theorem TextOf.y16 (h : TextOf s m e X Y) : ∀ j, j < m * m → tabOf Y j < 16 := fun j hj => by have := (h.ys j hj).2; have := h.hm'; omega
theorem TextOf.head (h : TextOf s m e X Y) : s.data.toList[0]? = some (dig e) := by rw [h.text]; rfl
theorem TextOf.one (h : TextOf s m e X Y) : digI (s.data.toList.getD 0 0) = e := by
  rw [List.getD_eq_getElem?_getD, h.head]
  exact digI_dig (by have := h.he; have := h.hm'; omega)
theorem rdTo_rows {T : Nat → Nat} (hm : 1 ≤ m) (h : ∀ j, j < m * m → T j < 16) (R : List UInt8) : rdTo m (rowsTo m T (m * m) ++ R) (m * m) = (List.range (m * m)).map fun j => (T j : Int) := by
  unfold rdTo
  apply List.map_congr_left
  intro j hj
  have hj' := List.mem_range.1 hj
  have hb : j % m < m := Nat.mod_lt _ hm
  have ha : j / m < m := Nat.div_lt_of_lt_mul hj'
  have e1 := rows_get (T := T) hm ha hb
  have e2 : j / m * m + j % m = j := by rw [Nat.mul_comm]; exact Nat.div_add_mod j m
  rw [e2] at e1
  have hlt : j / m * (m + 1) + j % m < (rowsTo m T (m * m)).length := (List.getElem?_eq_some_iff.1 e1).1
  unfold rdAt
  rw [List.getD_eq_getElem?_getD, List.getElem?_append_left hlt, e1]
  exact digI_dig (h j hj')
theorem TextOf.drop2 (h : TextOf s m e X Y) : s.data.toList.drop 2 = rowsTo m (tabOf X) (m * m) ++ ([32] ++ rowsTo m (tabOf Y) (m * m)) := by
  rw [h.text]; simp [fmtL]
theorem TextOf.dropw (h : TextOf s m e X Y) : s.data.toList.drop (2 + m * (m + 1)) = rowsTo m (tabOf Y) (m * m) := by
  have h1 := rows_full (T := tabOf X) h.hm
  rw [← List.drop_drop, h.drop2, ← List.append_assoc]
  exact List.drop_left' (by simp; omega)
theorem TextOf.sums (h : TextOf s m e X Y) : rdTo m (s.data.toList.drop 2) (m * m) = X := by
  rw [h.drop2, rdTo_rows h.hm h.x16]
  exact list_of_tab h.xl fun j hj => (h.xs j hj).1
theorem TextOf.products (h : TextOf s m e X Y) : rdTo m (s.data.toList.drop (2 + m * (m + 1))) (m * m) = Y := by
  have := rdTo_rows h.hm h.y16 []
  rw [List.append_nil] at this
  rw [h.dropw, this]
  exact list_of_tab h.yl fun j hj => (h.ys j hj).1
end

theorem sizes_inj {m k : Nat} (h : 1 + 2 * (m * (m + 1)) = 1 + 2 * (k * (k + 1))) : m = k := by
  rcases Nat.lt_trichotomy m k with hl | hl | hl
  · have h1 : m * (m + 1) ≤ m * (k + 1) := Nat.mul_le_mul_left _ (by omega)
    have h2 : (m + 1) * (k + 1) ≤ k * (k + 1) := Nat.mul_le_mul_right _ hl
    have h3 : (m + 1) * (k + 1) = m * (k + 1) + (k + 1) := Nat.succ_mul _ _
    omega
  · exact hl
  · have h1 : k * (k + 1) ≤ k * (m + 1) := Nat.mul_le_mul_left _ (by omega)
    have h2 : (k + 1) * (m + 1) ≤ m * (m + 1) := Nat.mul_le_mul_right _ hl
    have h3 : (k + 1) * (m + 1) = k * (m + 1) + (m + 1) := Nat.succ_mul _ _
    omega
theorem text_unique {s : ByteArray} {n o n' o' : Int} {X Y X' Y' : List Int} (h : IsText s n o X Y) (h' : IsText s n' o' X' Y') : n = n' ∧ o = o' ∧ X = X' ∧ Y = Y' := by
  obtain ⟨m, e, rfl, rfl, t⟩ := text_data h
  obtain ⟨k, f, rfl, rfl, u⟩ := text_data h'
  have hmk := sizes_inj (t.size.symm.trans u.size)
  subst hmk
  have h1 := t.one
  rw [u.one] at h1
  exact ⟨rfl, h1.symm, t.sums.symm.trans u.sums, t.products.symm.trans u.products⟩

/-- What parsing returns. -/
def ParseIs (s : ByteArray) (ok : Bool) (n o : Int) (X Y : List Int) : Prop := (ok = true ∧ IsText s n o X Y) ∨ (ok = false ∧ (∀ n o X Y, ¬ IsText s n o X Y) ∧ n = 0 ∧ o = 0 ∧ X = [] ∧ Y = [])
theorem parse_unique {s : ByteArray} {ok ok' : Bool} {n o n' o' : Int} {X Y X' Y' : List Int} (h : ParseIs s ok n o X Y) (h' : ParseIs s ok' n' o' X' Y') : ok = ok' ∧ n = n' ∧ o = o' ∧ X = X' ∧ Y = Y' := by
  rcases h with ⟨rfl, h⟩ | ⟨rfl, h, rfl, rfl, rfl, rfl⟩
  · rcases h' with ⟨rfl, h'⟩ | ⟨rfl, h', _⟩
    · exact ⟨rfl, text_unique h h'⟩
    · exact absurd h (h' _ _ _ _)
  · rcases h' with ⟨rfl, h'⟩ | ⟨rfl, h', rfl, rfl, rfl, rfl⟩
    · exact absurd h' (h _ _ _ _)
    · exact ⟨rfl, rfl, rfl, rfl, rfl⟩

theorem cutF_skip {s : ByteArray} {c : UInt8} {f n : Nat} {pre : List ByteArray} : ∀ d k, (∀ j, k ≤ j → j < k + d → s.data.toList[j]? ≠ some c) → cutF s c (d + n) pre f k = cutF s c n pre f (k + d)
  | 0, k, _ => by simp
  | d + 1, k, h => by
    rw [show d + 1 + n = (d + n) + 1 by omega, cutF, if_neg (h k (Nat.le_refl _) (by omega)), cutF_skip d (k + 1) fun j h1 h2 => h j (by omega) (by omega)]
    congr 1
    omega
theorem cutF_hit {s : ByteArray} {c : UInt8} {f n k : Nat} {pre : List ByteArray} (h : s.data.toList[k]? = some c) : cutF s c (n + 1) pre f k = cutF s c n (pre ++ [s.extract f k]) (k + 1) (k + 1) := by
  rw [cutF, if_pos h]

end Go.Proofs.Ytplligjoegjngaa
