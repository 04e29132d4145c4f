/- Texts of this seat in one: PE. -/
import Derived.Test.YtkjanhcajopfhaaMC
import Derived.Test.YtkjanhcajopfhaaMG

/- An append to a row of the call's own inside a region that draws its order. -/
namespace Go.Proofs.Ytkjanhcajopfhaa
open Go.RowKit Go.Shelf
set_option maxRecDepth 100000

def numL (k : Nat) (f : Nat → Nat) : List Int := (List.range k).map fun j => (f j : Int)
def numV (k : Nat) (f : Nat → Nat) : List Value := (numL k f).map (.int .i64)
section
variable {k : Nat} {f : Nat → Nat}
theorem numL_len : (numL k f).length = k := by simp [numL]
theorem numL_succ : numL (k + 1) f = numL k f ++ [(f k : Int)] := by simp [numL, List.range_succ]
theorem numV_succ : numV (k + 1) f = numV k f ++ [.int .i64 (f k : Int)] := by simp [numV, numL_succ]
theorem numV_len : (numV k f).length = k := by simp [numV, numL_len]
end
def OwnK (D k : Nat) (f : Nat → Nat) (v : Value) (w : World) : Prop := w.ownsRow D 3 1 v k (numV k f)
theorem OwnK.kept0 {D k : Nat} {f : Nat → Nat} {v : Value} {w w' : World} (h : OwnK D k f v w) (hg : w.grownBy w' none) : OwnK D k f v w' := World.ownsRow.kept h hg (by cases hv : v.ownBlock <;> simp)
theorem addr_add (b off j : Nat) : (⟨b, off, none⟩ : Addr).add j = ⟨b, off + j, none⟩ := by simp [Addr.add]
/-- .. and what has been appended stays, whichever of the values that own it is meant. -/
theorem run_app {D k b : Nat} {f : Nat → Nat} {v : Value} {x : World} (ty : TypeId) (hv : OwnK D k f v x) (hb : x.cell? ⟨b, 0, none⟩ = some (.int .i64 (f k : Int))) (hk : k ≤ 1000) (hD : D ≤ x.heap.size) :
    ∃ v' x', (Builtin.append_ #[22, 22] ty #[v, .slice (some ⟨b, 0, none⟩) 1 1]).run Try.prog x = .ok v' x' ∧ OwnK D (k + 1) f v' x' ∧ x.grownBy x' v.ownBlock ∧ (v'.ownBlock = v.ownBlock ∨ v'.ownBlock = some x.heap.size) ∧ (∀ u, OwnK D (k + 1) f u x → OwnK D (k + 1) f u x') ∧ ∀ u, OwnK D k f u x → OwnK D k f u x' := by
  obtain ⟨i0, hi, hz0, hz1, hz2⟩ := info_parts int_info
  have hsrc : ∀ (j : Nat) (u : Value), ([Value.int .i64 (f k : Int)])[j]? = some u → x.cell? ((⟨b, 0, none⟩ : Addr).add j) = some u := fun j u hu => by
    have hj : j = 0 := by
      have := (List.getElem?_eq_some_iff.1 hu).1
      simp at this
      exact this
    subst hj
    simp at hu
    subst hu
    simpa [Addr.add] using hb
  have h1c : ∀ u ∈ [Value.int .i64 (f k : Int)], u.oneCell' = true := fun u hu => by simp at hu; subst hu; rfl
  obtain ⟨v', x', hrun, h1, h2, _, h4⟩ := run_append_own_at (P := Try.prog) x D 22 ty 3 i0 (.int .i64 0) 1 8 Try.underlying22 hi hz0 hz1 hz2 rfl (by omega) v k (numV k f) hv ⟨b, 0, none⟩ 1 1 [.int .i64 (f k : Int)] rfl hsrc h1c (by unfold maxLen; omega) (by omega) hD
  have main : ∀ (k' : Nat) (u : Value), (k' = k ∨ k' = k + 1) → OwnK D k' f u x → OwnK D k' f u x' := fun k' u hk' hu => ?main
  exact ⟨v', x', hrun, by unfold OwnK; rw [numV_succ]; exact h1, h2, h4, fun u hu => main _ u (.inr rfl) hu, fun u hu => main _ u (.inl rfl) hu⟩
  have hv0 := hv
  rcases hv.2 with ⟨rfl, h0⟩ | ⟨g, cap, cur, rfl, hg, hblk, hc, hcm, hs, ht⟩
  · exact hu.kept0 h2
  · by_cases hr : k + 1 ≤ cap
    · have hbl : Blk x g 3 cur := hblk
      have hrun2 := run_append_room_cells (P := Try.prog) x 22 ty 3 i0 Try.underlying22 hi g 0 k cap ⟨b, 0, none⟩ 1 1 [.int .i64 (f k : Int)] (by rw [hz1]; rfl) hsrc h1c hr
        (fun j hj => by rw [hz1, Nat.zero_add, Nat.mul_one, hbl.cell, Array.getElem?_eq_getElem (by simp at hj; omega)]; rfl) (fun j hj => by rw [hz1, Nat.zero_add, Nat.mul_one]; exact hbl.frozen _)
      rw [hrun] at hrun2
      injection hrun2 with e1 e2
      rw [hz1, Nat.zero_add, Nat.mul_one] at e2
      subst e2
      by_cases hug : u.ownBlock = some g
      · rcases hu.2 with ⟨e0, _⟩ | ⟨g2, cap2, cur2, rfl, hg2, hblk2, hc2, hcm2, hs2, ht2⟩
        · subst e0; cases hug
        · have e3 : g2 = g := by simpa [Value.ownBlock] using hug
          subst e3
          have e4 : cur2 = cur := by
            have := hblk2.symm.trans hblk
            simp only [Option.some.injEq, Obj.cells.injEq, and_true] at this
            exact this
          subst e4
          have hb3 := hbl.set_ k (.int .i64 (f k : Int))
          refine ⟨hu.1, .inr ⟨g2, cap2, _, rfl, hg2, hb3, hc2, hcm2, by simpa using hs2, ?_⟩⟩
          rw [← ht2]
          refine List.ext_getElem? fun j => ?_
          rw [List.getElem?_take, List.getElem?_take]
          by_cases hj : j < k' * 1
          · rw [if_pos hj, if_pos hj, Array.getElem?_toList, Array.getElem?_toList, Array.getElem?_setIfInBounds]
            by_cases hjk : k = j
            · subst hjk
              have hkk : k' = k + 1 := by omega
              subst hkk
              have hk2 : cur2[k]? = some (.int .i64 (f k : Int)) := by
                have e5 : cur2.toList[k]? = (numV (k + 1) f)[k]? := by rw [← ht2, List.getElem?_take]; simp
                rw [← Array.getElem?_toList, e5, numV_succ, List.getElem?_append_right (by rw [numV_len]; exact Nat.le_refl _), numV_len]
                simp
              rw [if_pos rfl, if_pos (Array.getElem?_eq_some_iff.1 hk2).1, hk2]
            · rw [if_neg hjk]
          · rw [if_neg hj, if_neg hj]
      · exact World.ownsRow.kept hu h2 (.inr hug)
    · obtain ⟨v2, x2, hrun2, _, hg2⟩ := run_append_arg_grows (P := Try.prog) x 22 ty 3 i0 (.int .i64 0) 1 8 Try.underlying22 hi hz0 hz1 hz2 rfl (by omega) ⟨g, 0, none⟩ k cap (numV k f) (by rw [numV_len]; omega) (fun j u hu => by
          have hj : j < k := by have := (List.getElem?_eq_some_iff.1 hu).1; rwa [numV_len] at this
          have hbl : Blk x g 3 cur := hblk
          have e0 : (⟨g, 0, none⟩ : Addr).add j = ⟨g, j, none⟩ := by have := addr_add g 0 j; rwa [Nat.zero_add] at this
          have e5 : cur.toList[j]? = (numV k f)[j]? := by rw [← ht, List.getElem?_take]; simp; omega
          rw [e0, hbl.cell, ← Array.getElem?_toList, e5, hu]) ⟨b, 0, none⟩ 1 1 [.int .i64 (f k : Int)] rfl hsrc (by omega) (by unfold maxLen; omega) (by omega)
      rw [hrun] at hrun2
      injection hrun2 with e1 e2
      subst e2
      exact hu.kept0 hg2

/-! ### what the region asks of its makers -/
def ApR (row : Option Nat) (D k : Nat) (f : Nat → Nat) (w w' : World) : Prop := w.grownBy w' row ∧ (∀ v, OwnK D (k + 1) f v w → OwnK D (k + 1) f v w') ∧ ∀ v, OwnK D k f v w → OwnK D k f v w'
section
variable {row : Option Nat} {D k : Nat} {f : Nat → Nat}
theorem grownBy_refl (w : World) : w.grownBy w row := ⟨rfl, rfl, rfl, Nat.le_refl _, fun _ _ _ => rfl⟩
theorem grownBy_trans {a b c : World} (h : a.grownBy b row) (h' : b.grownBy c row) : a.grownBy c row :=
  ⟨h'.os.trans h.os, h'.tape.trans h.tape, h'.output.trans h.output, Nat.le_trans h.size h'.size, fun j hj hr => (h'.block j (Nat.lt_of_lt_of_le hj h.size) hr).trans (h.block j hj hr)⟩
theorem grownBy_below {a b : World} (h : Below a.heap.size a b) : a.grownBy b row := ⟨h.os, h.tape, h.output, h.size, fun j hj _ => h.block j hj⟩
theorem ApR.refl (w : World) : ApR row D k f w w := ⟨grownBy_refl w, fun _ h => h, fun _ h => h⟩
theorem ApR.trans (a b c : World) (h : ApR row D k f a b) (h' : ApR row D k f b c) : ApR row D k f a c := ⟨grownBy_trans h.1 h'.1, fun v hv => h'.2.1 v (h.2.1 v hv), fun v hv => h'.2.2 v (h.2.2 v hv)⟩
theorem ApR.of_below {w w' : World} (hb : Below w.heap.size w w') : ApR row D k f w w' := ⟨grownBy_below hb, fun _ h => own_nextK h hb, fun _ h => own_nextK h hb⟩
theorem ApR.drew (w : World) : ApR row D k f w w.drew := ApR.of_below (Below.refl _ _).drew
end
section
variable {row : Option Nat} {D D0 k c : Nat} {f : Nat → Nat}
end
theorem makes_app {row : Option Nat} {D D0 k b : Nat} {f : Nat → Nat} {o : Oper} {a : Act} (s y : Operand) (hop : o.op = .call { callee := .builtin .append, args := #[s, y], argTypes := #[22, 22] }) (v : Value) (x : World)
    (hs : a.eval s = v) (hx : a.eval y = .slice (some ⟨b, 0, none⟩) 1 1) (hv : OwnK D k f v x) (hr : v.ownBlock = row) (hb : x.cell? ⟨b, 0, none⟩ = some (.int .i64 (f k : Int))) (hk : k ≤ 1000) (hD : D ≤ x.heap.size) (hD0 : D0 ≤ x.heap.size) :
    makesAtR Try.prog (ApR row D k f) (fun _ => True) o a x fun u x' => OwnK D (k + 1) f u x' ∧ (u.ownBlock = row ∨ ∃ g, u.ownBlock = some g ∧ D0 ≤ g) := by
  obtain ⟨v', x', hrun, h1, h2, h3, h4, h5⟩ := run_app o.type hv hb hk hD
  unfold makesAtR execOp
  simp only [hop, resolve, invoke, builtin, Sem.run_bind, Sem.run_pure, Result.andThen_ok, List.map_toArray, List.map_cons, List.map_nil, hs, hx, hrun, makesUponR]
  rw [hr] at h2 h3
  exact ⟨⟨h2, h4, h5⟩, trivial, h1, h3.imp id fun h => ⟨_, h, hD0⟩⟩

end Go.Proofs.Ytkjanhcajopfhaa

