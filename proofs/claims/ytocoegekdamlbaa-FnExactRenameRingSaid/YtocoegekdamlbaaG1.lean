
/- A ring that is built in a box of its own: two slices that grow. -/
import Derived.Test.YtocoegekdamlbaaC4
import Derived.Maps.AppendAt
import Derived.OneCell
import Derived.Deep.AppendLies
import Derived.Deep.RegionLaw
namespace Go.Proofs.Ytocoegekdamlbaa
open Go.RowKit

abbrev intV (x : Int) : Value := .int .i64 x
/-- A box whose two slices are the call's own, and share no block. -/
structure Grow (D : Nat) (w : World) (bx : Nat) (n o : Int) (v2 v3 : Value) (k2 k3 : Nat) (X Y : List Int) : Prop where
  box : Blk w bx 28 #[.int .i64 n, .int .i64 o, v2, v3]
  hD : D ≤ bx
  o2 : w.ownsRow D 3 1 v2 k2 (X.map (.int .i64))
  o3 : w.ownsRow D 3 1 v3 k3 (Y.map (.int .i64))
  n2 : v2.ownBlock ≠ some bx
  n3 : v3.ownBlock ≠ some bx
  n23 : ∀ g, v2.ownBlock = some g → v3.ownBlock ≠ some g
theorem own_lt {w : World} {D : Nat} {e : TypeId} {v : Value} {k g : Nat} {xs : List Value} (h : w.ownsRow D e 1 v k xs) (hg : v.ownBlock = some g) : D ≤ g ∧ g < w.heap.size := h.lt g hg
theorem Grow.keep {D : Nat} {w w' : World} {bx : Nat} {n o : Int} {v2 v3 : Value} {k2 k3 : Nat} {X Y : List Int} (h : Grow D w bx n o v2 v3 k2 k3 X Y) (hb : Below w.heap.size w w') : Grow D w' bx n o v2 v3 k2 k3 X Y :=
  ⟨h.box.below hb h.box.lt, h.hD, h.o2.kept (Below.grown_ hb) (by cases v2.ownBlock <;> simp), h.o3.kept (Below.grown_ hb) (by cases v3.ownBlock <;> simp), h.n2, h.n3, h.n23⟩

/-- An element is put behind the first slice. -/
theorem Grow.push2 {D : Nat} {w w3 : World} {bx : Nat} {n o x : Int} {v2 v3 v' : Value} {k2 k3 : Nat} {X Y : List Int} {T : TypeId} (h : Grow D w bx n o v2 v3 k2 k3 X Y)
    (hown : w3.ownsRow D 3 1 v' (k2 + 1) (X.map (.int .i64) ++ [.int .i64 x])) (hg : (w.alloc (.cells #[.int .i64 x] T)).grownBy w3 v2.ownBlock)
    (hat : v'.ownBlock = v2.ownBlock ∨ v'.ownBlock = some (w.alloc (.cells #[.int .i64 x] T)).heap.size) (hDw : D ≤ w.heap.size) :
    Grow D (w3.setCell ⟨bx, 2, none⟩ v') bx n o v' v3 (k2 + 1) k3 (X ++ [x]) Y ∧ Below D w (w3.setCell ⟨bx, 2, none⟩ v') := by
  have hs : (w.alloc (.cells #[.int .i64 x] T)).heap.size = w.heap.size + 1 := by simp
  rw [hs] at hat
  have b1 : Below w.heap.size w (w.alloc (.cells #[.int .i64 x] T)) := (Below.refl _ _).alloc (Nat.le_refl _) _
  have h1 := h.keep b1
  have hlt := h.box.lt
  have kk := h1.o3.kept hg (by
    cases e3 : v3.ownBlock with
    | none => exact .inl rfl
    | some g => exact .inr fun e => h.n23 g e.symm e3)
  have kb : Blk w3 bx 28 #[.int .i64 n, .int .i64 o, v2, v3] := (hg.block bx h1.box.lt (Ne.symm h.n2)).trans h1.box
  have nb : v'.ownBlock ≠ some bx := by
    rcases hat with e | e
    · rw [e]; exact h.n2
    · rw [e]; simp; omega
  have hbx2 : ∀ g, v'.ownBlock = some g → g ≠ bx := fun g e e' => nb (by rw [e, e'])
  refine ⟨⟨by simpa using kb.set_ 2 v', h.hD, ?_, ?_, nb, h.n3, fun g e e3 => ?_⟩, ?_⟩
  · rw [List.map_append]; exact ownsRow_setCell_other hown nb v'
  · exact ownsRow_setCell_other kk h.n3 v'
  · rcases hat with e2 | e2
    · exact h.n23 g (by rw [← e2]; exact e) e3
    · rw [e2] at e
      have := (h.o3.lt g e3).2
      simp at e
      omega
  · exact (((b1.mono hDw)).grown hg (by simp; omega) (fun k hk => (h1.o2.lt k hk).1)).setCell h.hD _

/-- An element is put behind the second slice. -/
theorem Grow.push3 {D : Nat} {w w3 : World} {bx : Nat} {n o x : Int} {v2 v3 v' : Value} {k2 k3 : Nat} {X Y : List Int} {T : TypeId} (h : Grow D w bx n o v2 v3 k2 k3 X Y)
    (hown : w3.ownsRow D 3 1 v' (k3 + 1) (Y.map (.int .i64) ++ [.int .i64 x])) (hg : (w.alloc (.cells #[.int .i64 x] T)).grownBy w3 v3.ownBlock)
    (hat : v'.ownBlock = v3.ownBlock ∨ v'.ownBlock = some (w.alloc (.cells #[.int .i64 x] T)).heap.size) (hDw : D ≤ w.heap.size) :
    Grow D (w3.setCell ⟨bx, 3, none⟩ v') bx n o v2 v' k2 (k3 + 1) X (Y ++ [x]) ∧ Below D w (w3.setCell ⟨bx, 3, none⟩ v') := by
  have hs : (w.alloc (.cells #[.int .i64 x] T)).heap.size = w.heap.size + 1 := by simp
  rw [hs] at hat
  have b1 : Below w.heap.size w (w.alloc (.cells #[.int .i64 x] T)) := (Below.refl _ _).alloc (Nat.le_refl _) _
  have h1 := h.keep b1
  have hlt := h.box.lt
  have kk := h1.o2.kept hg (by
    cases e2 : v2.ownBlock with
    | none => exact .inl rfl
    | some g => exact .inr fun e => h.n23 g e2 e.symm)
  have kb : Blk w3 bx 28 #[.int .i64 n, .int .i64 o, v2, v3] := (hg.block bx h1.box.lt (Ne.symm h.n3)).trans h1.box
  have nb : v'.ownBlock ≠ some bx := by
    rcases hat with e | e
    · rw [e]; exact h.n3
    · rw [e]; simp; omega
  have hbx2 : ∀ g, v'.ownBlock = some g → g ≠ bx := fun g e e' => nb (by rw [e, e'])
  refine ⟨⟨by simpa using kb.set_ 3 v', h.hD, ?_, ?_, h.n2, nb, fun g e2 e => ?_⟩, ?_⟩
  · exact ownsRow_setCell_other kk h.n2 v'
  · rw [List.map_append]; exact ownsRow_setCell_other hown nb v'
  · rcases hat with e3 | e3
    · exact h.n23 g e2 (by rw [← e3]; exact e)
    · rw [e3] at e
      have := (h.o2.lt g e2).2
      simp at e
      omega
  · exact (((b1.mono hDw)).grown hg (by simp; omega) (fun k hk => (h1.o3.lt k hk).1)).setCell h.hD _

theorem Grow.app2 {D : Nat} {w w3 : World} {bx gg cap m : Nat} {n o x : Int} {v2 v3 : Value} {k2 k3 : Nat} {X Y : List Int} {T : TypeId} (h : Grow D w bx n o v2 v3 k2 k3 X Y)
    (hown : w3.ownsRow D 3 1 (.slice (some ⟨gg, 0, none⟩) m cap) (k2 + 1) (X.map (.int .i64) ++ [.int .i64 x])) (hg : (w.alloc (.cells #[.int .i64 x] T)).drew.grownBy w3 v2.ownBlock)
    (hat : v2.ownBlock = some gg ∨ gg = w.heap.size + 1) (hDw : D ≤ w.heap.size) :
    Grow D (w3.setCell ⟨bx, 2, none⟩ (.slice (some ⟨gg, 0, none⟩) m cap)) bx n o (.slice (some ⟨gg, 0, none⟩) m cap) v3 (k2 + 1) k3 (X ++ [x]) Y ∧ Below D w (w3.setCell ⟨bx, 2, none⟩ (.slice (some ⟨gg, 0, none⟩) m cap)) :=
  h.push2 (T := T) hown ⟨hg.os, hg.tape, hg.output, hg.size, hg.block⟩ (by
    rcases hat with e | e
    · exact .inl (by rw [e]; rfl)
    · exact .inr (by rw [e]; simp [Value.ownBlock])) hDw
theorem Grow.app3 {D : Nat} {w w3 : World} {bx gg cap m : Nat} {n o x : Int} {v2 v3 : Value} {k2 k3 : Nat} {X Y : List Int} {T : TypeId} (h : Grow D w bx n o v2 v3 k2 k3 X Y)
    (hown : w3.ownsRow D 3 1 (.slice (some ⟨gg, 0, none⟩) m cap) (k3 + 1) (Y.map (.int .i64) ++ [.int .i64 x])) (hg : (w.alloc (.cells #[.int .i64 x] T)).drew.grownBy w3 v3.ownBlock)
    (hat : v3.ownBlock = some gg ∨ gg = w.heap.size + 1) (hDw : D ≤ w.heap.size) :
    Grow D (w3.setCell ⟨bx, 3, none⟩ (.slice (some ⟨gg, 0, none⟩) m cap)) bx n o v2 (.slice (some ⟨gg, 0, none⟩) m cap) k2 (k3 + 1) X (Y ++ [x]) ∧ Below D w (w3.setCell ⟨bx, 3, none⟩ (.slice (some ⟨gg, 0, none⟩) m cap)) :=
  h.push3 (T := T) hown ⟨hg.os, hg.tape, hg.output, hg.size, hg.block⟩ (by
    rcases hat with e | e
    · exact .inl (by rw [e]; rfl)
    · exact .inr (by rw [e]; simp [Value.ownBlock])) hDw

theorem Grow.put2 {D : Nat} {w w3 : World} {bx gg cap m : Nat} {n o x : Int} {v2 v3 : Value} {k2 k3 : Nat} {X Y : List Int} (h : Grow D w bx n o v2 v3 k2 k3 X Y)
    (hown : w3.ownsRow D 3 1 (.slice (some ⟨gg, 0, none⟩) m cap) (k2 + 1) (X.map (.int .i64) ++ [.int .i64 x])) (hg : w.grownBy w3 v2.ownBlock)
    (hat : v2.ownBlock = some gg ∨ gg = w.heap.size) :
    Grow D (w3.setCell ⟨bx, 2, none⟩ (.slice (some ⟨gg, 0, none⟩) m cap)) bx n o (.slice (some ⟨gg, 0, none⟩) m cap) v3 (k2 + 1) k3 (X ++ [x]) Y ∧ Below D w (w3.setCell ⟨bx, 2, none⟩ (.slice (some ⟨gg, 0, none⟩) m cap)) := by
  have hlt := h.box.lt
  have kk := h.o3.kept hg (by
    cases e3 : v3.ownBlock with
    | none => exact .inl rfl
    | some g => exact .inr fun e => h.n23 g e.symm e3)
  have kb : Blk w3 bx 28 #[.int .i64 n, .int .i64 o, v2, v3] := (hg.block bx hlt (Ne.symm h.n2)).trans h.box
  have nb : gg ≠ bx := by
    rcases hat with e | e
    · intro e2; exact h.n2 (by rw [e, e2])
    · omega
  have nb' : (Value.slice (some ⟨gg, 0, none⟩) m cap).ownBlock ≠ some bx := by simpa [Value.ownBlock] using nb
  refine ⟨⟨by simpa using kb.set_ 2 _, h.hD, ?_, ?_, nb', h.n3, fun g e2 e3 => ?_⟩, ?_⟩
  · rw [List.map_append]; exact ownsRow_setCell_other hown nb' _
  · exact ownsRow_setCell_other kk h.n3 _
  · have eg : gg = g := by simpa [Value.ownBlock] using e2
    rcases hat with e | e
    · exact h.n23 g (by rw [e, eg]) e3
    · have := (h.o3.lt g e3).2
      omega
  · exact (Below.grown (Below.refl _ _) hg (Nat.le_of_lt (Nat.lt_of_le_of_lt h.hD hlt)) (fun k hk => (h.o2.lt k hk).1)).setCell h.hD _
theorem Grow.put3 {D : Nat} {w w3 : World} {bx gg cap m : Nat} {n o x : Int} {v2 v3 : Value} {k2 k3 : Nat} {X Y : List Int} (h : Grow D w bx n o v2 v3 k2 k3 X Y)
    (hown : w3.ownsRow D 3 1 (.slice (some ⟨gg, 0, none⟩) m cap) (k3 + 1) (Y.map (.int .i64) ++ [.int .i64 x])) (hg : w.grownBy w3 v3.ownBlock)
    (hat : v3.ownBlock = some gg ∨ gg = w.heap.size) :
    Grow D (w3.setCell ⟨bx, 3, none⟩ (.slice (some ⟨gg, 0, none⟩) m cap)) bx n o v2 (.slice (some ⟨gg, 0, none⟩) m cap) k2 (k3 + 1) X (Y ++ [x]) ∧ Below D w (w3.setCell ⟨bx, 3, none⟩ (.slice (some ⟨gg, 0, none⟩) m cap)) := by
  have hlt := h.box.lt
  have kk := h.o2.kept hg (by
    cases e3 : v2.ownBlock with
    | none => exact .inl rfl
    | some g => exact .inr fun e => h.n23 g e3 e.symm)
  have kb : Blk w3 bx 28 #[.int .i64 n, .int .i64 o, v2, v3] := (hg.block bx hlt (Ne.symm h.n3)).trans h.box
  have nb : gg ≠ bx := by
    rcases hat with e | e
    · intro e2; exact h.n3 (by rw [e, e2])
    · omega
  have nb' : (Value.slice (some ⟨gg, 0, none⟩) m cap).ownBlock ≠ some bx := by simpa [Value.ownBlock] using nb
  refine ⟨⟨by simpa using kb.set_ 3 _, h.hD, ?_, ?_, h.n2, nb', fun g e2 e3 => ?_⟩, ?_⟩
  · exact ownsRow_setCell_other kk h.n2 _
  · rw [List.map_append]; exact ownsRow_setCell_other hown nb' _
  · have eg : gg = g := by simpa [Value.ownBlock] using e3
    rcases hat with e | e
    · exact h.n23 g e2 (by rw [e, eg])
    · have := (h.o2.lt g e2).2
      omega
  · exact (Below.grown (Below.refl _ _) hg (Nat.le_of_lt (Nat.lt_of_le_of_lt h.hD hlt)) (fun k hk => (h.o3.lt k hk).1)).setCell h.hD _

end Go.Proofs.Ytocoegekdamlbaa
