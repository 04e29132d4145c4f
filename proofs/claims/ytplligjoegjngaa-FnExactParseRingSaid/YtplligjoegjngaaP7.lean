/- Plain facts: the text of a ring, cut at its spaces, and what is read from the pieces. -/
import Derived.Test.YtplligjoegjngaaP6
namespace Go.Proofs.Ytplligjoegjngaa
open Go.RowKit
set_option maxRecDepth 100000

theorem ba_extract (s : ByteArray) (i j : Nat) : (s.extract i j).data.toList = (s.data.toList.drop i).take (j - i) := by
  rw [ByteArray.data_extract]
  simp [List.extract_eq_take_drop]

section
variable {s : ByteArray} {m e : Nat} {X Y : List Int}
theorem TextOf.cut (h : TextOf s m e X Y) : ∃ a b c, cutL s 32 = [a, b, c] ∧ a.data.toList = [dig e] ∧ b.data.toList = rowsTo m (tabOf X) (m * m) ∧ c.data.toList = rowsTo m (tabOf Y) (m * m) := by
  obtain ⟨r1, h1⟩ : ∃ r, (rowsTo m (tabOf X) (m * m)).length = r := ⟨_, rfl⟩
  obtain ⟨r2, h2⟩ : ∃ r, (rowsTo m (tabOf Y) (m * m)).length = r := ⟨_, rfl⟩
  have he16 : e < 16 := by have := h.he; have := h.hm'; omega
  have hL : s.data.toList = dig e :: 32 :: (rowsTo m (tabOf X) (m * m) ++ 32 :: rowsTo m (tabOf Y) (m * m)) := by rw [h.text]; simp [fmtL]
  have hsz : s.size = 1 + (1 + (r1 + (1 + r2))) := by
    have h3 : s.data.toList.length = s.size := by simp
    rw [← h3, hL]
    simp [h1, h2]
    omega
  have g0 : ∀ j, 0 ≤ j → j < 0 + 1 → s.data.toList[j]? ≠ some 32 := by
    intro j _ hj
    have : j = 0 := by omega
    subst this
    rw [hL]
    simpa using (dig_ne he16).2
  have g1 : s.data.toList[1]? = some 32 := by rw [hL]; rfl
  have g2 : ∀ j, 2 ≤ j → j < 2 + r1 → s.data.toList[j]? ≠ some 32 := by
    intro j hj1 hj2 hc
    rw [hL] at hc
    obtain ⟨i, rfl⟩ : ∃ i, j = i + 2 := ⟨j - 2, by omega⟩
    simp only [List.getElem?_cons_succ] at hc
    rw [List.getElem?_append_left (by omega)] at hc
    exact rows_no_space h.x16 _ (List.mem_of_getElem? hc) rfl
  have g3 : s.data.toList[2 + r1]? = some 32 := by
    rw [hL, show 2 + r1 = r1 + 1 + 1 by omega]
    simp only [List.getElem?_cons_succ]
    rw [List.getElem?_append_right (by omega), h1, Nat.sub_self]
    rfl
  have g4 : ∀ j, 2 + r1 + 1 ≤ j → j < 2 + r1 + 1 + r2 → s.data.toList[j]? ≠ some 32 := by
    intro j hj1 hj2 hc
    rw [hL] at hc
    obtain ⟨i, rfl⟩ : ∃ i, j = (r1 + 1 + i) + 2 := ⟨j - 2 - r1 - 1, by omega⟩
    simp only [List.getElem?_cons_succ] at hc
    rw [List.getElem?_append_right (by omega), h1, show r1 + 1 + i - r1 = i + 1 by omega] at hc
    simp only [List.getElem?_cons_succ] at hc
    exact rows_no_space h.y16 _ (List.mem_of_getElem? hc) rfl
  refine ⟨s.extract 0 1, s.extract 2 (2 + r1), s.extract (2 + r1 + 1) (2 + r1 + 1 + r2), ?_, ?_, ?_, ?_⟩
  · unfold cutL
    rw [hsz, cutF_skip 1 0 g0, show (1 + (r1 + (1 + r2))) = (r1 + (1 + r2)) + 1 by omega, cutF_hit g1, cutF_skip r1 _ g2, show 1 + r2 = r2 + 1 by omega, cutF_hit g3]
    have := cutF_skip (s := s) (c := 32) (n := 0) (f := 2 + r1 + 1) (pre := [s.extract 0 1, s.extract 2 (2 + r1)]) r2 _ g4
    rw [Nat.add_zero] at this
    exact this
  · rw [ba_extract, hL]; rfl
  · rw [ba_extract, hL, show 2 + r1 - 2 = r1 by omega]
    simp only [List.drop_succ_cons, List.drop_zero]
    rw [List.take_append_of_le_length (by omega), List.take_of_length_le (by omega)]
  · rw [ba_extract, hL, show 2 + r1 + 1 + r2 - (2 + r1 + 1) = r2 by omega, show 2 + r1 + 1 = r1 + 1 + 1 + 1 by omega]
    simp only [List.drop_succ_cons]
    have hd : List.drop (r1 + 1) (rowsTo m (tabOf X) (m * m) ++ 32 :: rowsTo m (tabOf Y) (m * m)) = rowsTo m (tabOf Y) (m * m) := by
      rw [show rowsTo m (tabOf X) (m * m) ++ 32 :: rowsTo m (tabOf Y) (m * m) = (rowsTo m (tabOf X) (m * m) ++ [32]) ++ rowsTo m (tabOf Y) (m * m) by simp]
      exact List.drop_left' (by simp [h1])
    rw [hd, List.take_of_length_le (by omega)]
end

/-- What the reading side makes of the three pieces of a text. -/
theorem TextOf.pieces {s a b c : ByteArray} {m e : Nat} {X Y : List Int} (h : TextOf s m e X Y) (ha : a.data.toList = [dig e]) (hb : b.data.toList = rowsTo m (tabOf X) (m * m)) (hc : c.data.toList = rowsTo m (tabOf Y) (m * m)) :
    a.size = 1 ∧ Lib.indexByte (b.data.toList ++ [47]) 47 = m ∧ digI (a.data.toList.getD 0 0) = e ∧ tblL b.data.toList = X ∧ tblL c.data.toList = Y := by
  have he16 : e < 16 := by have := h.he; have := h.hm'; omega
  refine ⟨?_, ?_, ?_, ?_, ?_⟩
  · have h3 : a.data.toList.length = a.size := by simp
    rw [← h3, ha]; rfl
  · rw [hb]; exact first_slash h.hm h.x16
  · rw [ha]; exact digI_dig he16
  · rw [hb, tbl_rows h.x16]
    exact list_of_tab h.xl fun j hj => (h.xs j hj).1
  · rw [hc, tbl_rows h.y16]
    exact list_of_tab h.yl fun j hj => (h.ys j hj).1

end Go.Proofs.Ytplligjoegjngaa
