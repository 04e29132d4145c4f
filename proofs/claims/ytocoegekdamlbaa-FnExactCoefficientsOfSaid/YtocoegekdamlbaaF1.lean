
/- The text of a table: appendTable. -/
import Derived.Test.YtocoegekdamlbaaB8
namespace Go.Proofs.Ytocoegekdamlbaa
open Go.RowKit

/-- The digit of an element. -/
def dig (t : Nat) : UInt8 := #[48, 49, 50, 51, 52, 53, 54, 55, 56, 57, 97, 98, 99, 100, 101, 102].getD t 48
theorem dig_at (t : Nat) (h : t < 16) : ({ data := #[48, 49, 50, 51, 52, 53, 54, 55, 56, 57, 97, 98, 99, 100, 101, 102] } : ByteArray)[t]'h = dig t := by
  have g : ∀ t : Fin 16, (#[48, 49, 50, 51, 52, 53, 54, 55, 56, 57, 97, 98, 99, 100, 101, 102] : Array UInt8)[t.val]'t.isLt = dig t.val := by decide
  exact g ⟨t, h⟩
/-- The text of a table, as far as the entry k. -/
def rowsTo (m : Nat) (T : Nat → Nat) : Nat → List UInt8
  | 0 => []
  | k + 1 => rowsTo m T k ++ (if 0 < k ∧ k % m = 0 then [47] else []) ++ [dig (T k)]
theorem rowsTo_len {m : Nat} {T : Nat → Nat} : ∀ k, (rowsTo m T k).length ≤ 2 * k
  | 0 => Nat.le_refl _
  | k + 1 => by
    have := rowsTo_len (m := m) (T := T) k
    simp only [rowsTo, List.length_append, List.length_cons, List.length_nil]
    split <;> simp <;> omega
/-- .. within the row a, as far as its entry b. -/
def midTo (m : Nat) (T : Nat → Nat) (a b : Nat) : List UInt8 := rowsTo m T (a * m) ++ (if 0 < a then [47] else []) ++ (List.range b).map fun j => dig (T (a * m + j))
theorem mid_zero {m : Nat} {T : Nat → Nat} : midTo m T 0 0 = rowsTo m T (0 * m) := by simp [midTo]
theorem mid_none {m a : Nat} {T : Nat → Nat} (ha : ¬ 0 < a) : midTo m T a 0 = rowsTo m T (a * m) := by simp [midTo, ha]
theorem mid_slash {m a : Nat} {T : Nat → Nat} (ha : 0 < a) : midTo m T a 0 = rowsTo m T (a * m) ++ [47] := by simp [midTo, ha]
theorem mid_next {m a b : Nat} {T : Nat → Nat} : midTo m T a (b + 1) = midTo m T a b ++ [dig (T (a * m + b))] := by
  simp [midTo, List.range_succ]
theorem rowsTo_succ {m : Nat} {T : Nat → Nat} (k : Nat) : rowsTo m T (k + 1) = rowsTo m T k ++ (if 0 < k ∧ k % m = 0 then [47] else []) ++ [dig (T k)] := rfl
theorem mid_rows {m a : Nat} {T : Nat → Nat} (hm : 1 ≤ m) : ∀ b, b + 1 ≤ m → midTo m T a (b + 1) = rowsTo m T (a * m + b + 1)
  | 0, _ => by
    rw [mid_next, Nat.add_zero, rowsTo_succ]
    congr 1
    unfold midTo
    have : (0 < a * m ∧ a * m % m = 0) ↔ 0 < a := by
      constructor
      · rintro ⟨h, _⟩
        rcases Nat.eq_zero_or_pos a with h0 | h0
        · subst h0; simp at h
        · exact h0
      · intro h; exact ⟨Nat.mul_pos h hm, Nat.mul_mod_left _ _⟩
    by_cases h : 0 < a
    · rw [if_pos h, if_pos (this.2 h)]; simp
    · rw [if_neg h, if_neg (fun g => h (this.1 g))]; simp
  | b + 1, hb => by
    rw [mid_next, mid_rows hm b (by omega)]
    have : ¬ (0 < a * m + b + 1 ∧ (a * m + b + 1) % m = 0) := by
      rintro ⟨_, h⟩
      rw [show a * m + b + 1 = m * a + (b + 1) by rw [Nat.mul_comm]; omega, Nat.mul_add_mod, Nat.mod_eq_of_lt (by omega)] at h
      omega
    rw [show a * m + (b + 1) = a * m + b + 1 by omega, rowsTo_succ (a * m + b + 1), if_neg this]
    simp
theorem mid_full {m a : Nat} {T : Nat → Nat} (hm : 1 ≤ m) : midTo m T a m = rowsTo m T ((a + 1) * m) := by
  obtain ⟨b, rfl⟩ : ∃ b, m = b + 1 := ⟨m - 1, by omega⟩
  rw [mid_rows hm b (Nat.le_refl _), Nat.succ_mul]; rfl

def bytesV (l : List UInt8) : List Value := l.map fun c => .int .u8 (c.toNat : Int)
theorem bytesV_one (l : List UInt8) (c : UInt8) : bytesV l ++ [.int .u8 (c.toNat : Int)] = bytesV (l ++ [c]) := by simp [bytesV]
theorem bytesV_len (l : List UInt8) : (bytesV l).length = l.length := by simp [bytesV]
theorem u8_info : (Try.prog.info? 5).map (fun i => (i.zero, i.size, i.bytes)) = some (some (.int .u8 0), 1, 1) := by kernel_rfl

theorem Blk.grown {w w' : World} {g : Nat} {t : TypeId} {cs : Array Value} {row : Option Nat} (h : Blk w g t cs) (hb : w.grownBy w' row) (hg : some g ≠ row) : Blk w' g t cs := (hb.block g h.lt hg).trans h
theorem Blk.ne_ {w : World} {g g' : Nat} {t t' : TypeId} {cs cs' : Array Value} (h : Blk w g t cs) (h' : Blk w g' t' cs') (hne : t ≠ t') : g ≠ g' := by
  rintro rfl
  unfold Blk at h h'
  rw [h] at h'
  injection h' with h'
  injection h' with _ ht
  exact hne ht
theorem own_blk_ne {w : World} {g : Nat} {t : TypeId} {cs : Array Value} {base : Nat} {e : TypeId} {size n : Nat} {v : Value} {xs : List Value} (h : w.ownsRow base e size v n xs) (hg : Blk w g t cs) (hne : e ≠ t) : some g ≠ v.ownBlock := by
  rcases h.2 with ⟨rfl, _⟩ | ⟨g', cap, cur, rfl, _, hh, _⟩
  · simp [Value.ownBlock]
  · intro he
    have : g = g' := by simpa [Value.ownBlock] using he
    subst this
    exact Blk.ne_ (t := e) hh hg hne rfl
/-- What a step of an append leaves: a box of another type and old memory are as they were. -/
theorem append_keeps {w w1 : World} {o : Obj} {D g n : Nat} {e t : TypeId} {cs : Array Value} {v : Value} {xs : List Value} (hb : Blk w g t cs) (hown : w.ownsRow D e 1 v n xs) (hne : e ≠ t) (hg : (w.alloc o).grownBy w1 v.ownBlock) (hD : D ≤ w.heap.size) :
    Blk w1 g t cs ∧ Below D w w1 ∧ D ≤ w1.heap.size :=
  ⟨(hb.alloc o).grown hg (own_blk_ne (hown.alloc o) (hb.alloc o) hne), ((Below.refl _ _).alloc hD o).grown hg (by simp; omega) (fun k hk => (hown.lt k hk).1), Nat.le_trans hD (Nat.le_trans (by simp) hg.size)⟩

theorem none_own {w : World} {D n : Nat} {l r r' : List UInt8} {v : Value} {e : TypeId} (h : r = r') (hw : w.ownsRow D e 1 v n (bytesV (l ++ r'))) : w.ownsRow D e 1 v n (bytesV (l ++ r)) := by rw [h]; exact hw
theorem slash_own {w : World} {D m a n : Nat} {T : Nat → Nat} {l : List UInt8} {v : Value} {e : TypeId} (ha0 : 0 < a) (h : w.ownsRow D e 1 v (n + 1) (bytesV (l ++ rowsTo m T (a * m)) ++ [.int .u8 47])) : w.ownsRow D e 1 v (n + 1) (bytesV (l ++ midTo m T a 0)) := by
  rw [mid_slash ha0, ← List.append_assoc]
  exact (bytesV_one (l ++ rowsTo m T (a * m)) 47) ▸ h
theorem mid_len {m a b : Nat} {T : Nat → Nat} (ha : a < m) (hb : b ≤ m) (hm' : m ≤ 16) : (midTo m T a b).length ≤ 800 := by
  have h1 := rowsTo_len (m := m) (T := T) (a * m)
  have h2 : a * m ≤ 16 * 16 := Nat.mul_le_mul (by omega) hm'
  unfold midTo
  simp only [List.length_append, List.length_map, List.length_range]
  split <;> simp <;> omega

theorem rows_len {m a : Nat} {T : Nat → Nat} (ha : a ≤ m) (hm' : m ≤ 16) : (rowsTo m T (a * m)).length ≤ 600 := by
  have h1 := rowsTo_len (m := m) (T := T) (a * m)
  have h2 : a * m ≤ 16 * 16 := Nat.mul_le_mul (by omega) hm'
  omega
theorem own_none (v : Value) : v.ownBlock = none ∨ v.ownBlock ≠ none := by
  cases v.ownBlock <;> simp

end Go.Proofs.Ytocoegekdamlbaa
