
/- The integers by a number, as the reading side makes them. -/
import Derived.Test.YtocoegekdamlbaaG1
namespace Go.Proofs.Ytocoegekdamlbaa
open Go.RowKit

/-- A ring that a call made: its slices are its own, and share no block. -/
def NewRing (D : Nat) (w : World) (v : Value) (n o : Int) (k : Nat) (X Y : List Int) : Prop :=
  ∃ v2 v3, v = .agg #[.int .i64 n, .int .i64 o, v2, v3] ∧ w.ownsRow D 3 1 v2 k (X.map (.int .i64)) ∧ w.ownsRow D 3 1 v3 k (Y.map (.int .i64)) ∧ (∀ g, v2.ownBlock = some g → v3.ownBlock ≠ some g)

/-- The box of the result gets the box that was built. -/
def store4 (w : World) (b : Nat) (v0 v1 v2 v3 : Value) : World := (((w.setCell ⟨b, 0, none⟩ v0).setCell ⟨b, 1, none⟩ v1).setCell ⟨b, 2, none⟩ v2).setCell ⟨b, 3, none⟩ v3
theorem store4_blk {w : World} {b : Nat} {a0 a1 a2 a3 v0 v1 v2 v3 : Value} {t : TypeId} (h : Blk w b t #[a0, a1, a2, a3]) : Blk (store4 w b v0 v1 v2 v3) b t #[v0, v1, v2, v3] := by
  have := (((h.set_ 0 v0).set_ 1 v1).set_ 2 v2).set_ 3 v3
  simpa [store4] using this
theorem store4_own {w : World} {b D k : Nat} {e : TypeId} {v v0 v1 v2 v3 : Value} {xs : List Value} (h : w.ownsRow D e 1 v k xs) (hb : v.ownBlock ≠ some b) : (store4 w b v0 v1 v2 v3).ownsRow D e 1 v k xs :=
  ownsRow_setCell_other (ownsRow_setCell_other (ownsRow_setCell_other (ownsRow_setCell_other h hb _) hb _) hb _) hb _
theorem store4_below {w w' : World} {b D : Nat} {v0 v1 v2 v3 : Value} (h : Below D w w') (hb : D ≤ b) : Below D w (store4 w' b v0 v1 v2 v3) := (((h.setCell hb _).setCell hb _).setCell hb _).setCell hb _
theorem NewRing.mono {D D' : Nat} {w : World} {v : Value} {n o : Int} {k : Nat} {X Y : List Int} (h : NewRing D w v n o k X Y) (hD : D' ≤ D) : NewRing D' w v n o k X Y := by
  obtain ⟨v2, v3, rfl, h2, h3, h4⟩ := h
  exact ⟨v2, v3, rfl, own_base h2 hD, own_base h3 hD, h4⟩
theorem Grow.result {D : Nat} {w : World} {bx b : Nat} {n o : Int} {v2 v3 : Value} {k : Nat} {X Y : List Int} {T : TypeId} {cs : Array Value} (h : Grow D w bx n o v2 v3 k k X Y) (hb : Blk w b T cs) (hT : T ≠ 3) :
    NewRing D (store4 w b (.int .i64 n) (.int .i64 o) v2 v3) (.agg #[.int .i64 n, .int .i64 o, v2, v3]) n o k X Y := by
  have ne : ∀ {v : Value} {k : Nat} {xs : List Value}, w.ownsRow D 3 1 v k xs → v.ownBlock ≠ some b := by
    intro v k xs ho e
    rcases ho.2 with ⟨rfl, _⟩ | ⟨g, cap, cur, rfl, _, hg, _⟩
    · cases e
    · have : g = b := by simpa [Value.ownBlock] using e
      subst this
      unfold Blk at hb
      rw [hg] at hb
      injection hb with hb
      injection hb with _ hb
      exact hT hb.symm
  exact ⟨v2, v3, rfl, store4_own h.o2 (ne h.o2), store4_own h.o3 (ne h.o3), h.n23⟩

def addZ (m k : Nat) : List Int := (List.range k).map fun j => (((j / m + j % m) % m : Nat) : Int)
def mulZ (m k : Nat) : List Int := (List.range k).map fun j => ((j / m * (j % m) % m : Nat) : Int)
theorem addZ_succ {m k : Nat} : addZ m (k + 1) = addZ m k ++ [(((k / m + k % m) % m : Nat) : Int)] := by simp [addZ, List.range_succ]
theorem mulZ_succ {m k : Nat} : mulZ m (k + 1) = mulZ m k ++ [((k / m * (k % m) % m : Nat) : Int)] := by simp [mulZ, List.range_succ]
theorem sqI {m : Nat} (hm' : m ≤ 16) : (m : Int) * m ≤ 256 ∧ 0 ≤ (m : Int) * m ∧ (m : Int) * m = ((m * m : Nat) : Int) ∧ m * m ≤ 256 := by
  have h2 : m * m ≤ 16 * 16 := Nat.mul_le_mul hm' hm'
  have e1 : (m : Int) * m = ((m * m : Nat) : Int) := by simp
  rw [e1]; omega
theorem parts2 {m k : Nat} (hk : k < m * m) : k / m < m ∧ k % m < m := by
  have hm : 0 < m := by
    rcases Nat.eq_zero_or_pos m with h | h
    · subst h; omega
    · exact h
  exact ⟨Nat.div_lt_of_lt_mul hk, Nat.mod_lt _ hm⟩

end Go.Proofs.Ytocoegekdamlbaa
