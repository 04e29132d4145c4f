/- Texts of this seat in one: G3 G4 R1 W9 WA E6. -/
import Derived.Test.YtajoimopahibcaaGreatMC
import Derived.Test.YtajoimopahibcaaGreatMF
import Derived.Test.YtajoimopahibcaaGreatMB

/- The methods of the making of the integers by a number. -/
namespace Go.Proofs.YtajoimopahibcaaGreat
open Go.RowKit
set_option maxRecDepth 100000

end Go.Proofs.YtajoimopahibcaaGreat



/- The program's maker of rings, at the integers by a number. -/
namespace Go.Proofs.YtajoimopahibcaaGreat
open Go.RowKit
set_option maxRecDepth 100000

def tabZ (m : Nat) (f : Nat → Nat → Nat) (k : Nat) : List Int := (List.range k).map fun j => ((f (j / m) (j % m) : Nat) : Int)
theorem tabZ_succ {m k : Nat} {f : Nat → Nat → Nat} : tabZ m f (k + 1) = tabZ m f k ++ [((f (k / m) (k % m) : Nat) : Int)] := by simp [tabZ, List.range_succ]

def madePhi (D m : Nat) (i : Nat) (v : Value) (w : World) : Prop :=
  if i = 17 then ∃ g, v = .pointer (some ⟨g, 0, none⟩) ∧ D ≤ g ∧ Blk w g 25 #[.int .i64 0, .int .i64 0, .slice none 0 0, .slice none 0 0]
  else ∃ g, v = .slice (some ⟨g, 0, none⟩) 0 (m * m) ∧ D ≤ g ∧ Blk w g 3 (madeCells #[.int .i64 0] (m * m))
theorem madePhi_stable {D m : Nat} (i : Nat) (v : Value) (w w' : World) (h : madePhi D m i v w) (hb : Below w.heap.size w w') : madePhi D m i v w' := by
  unfold madePhi at *
  split
  · rename_i e
    rw [if_pos e] at h
    obtain ⟨g, h1, h2, h3⟩ := h
    exact ⟨g, h1, h2, h3.below hb h3.lt⟩
  · rename_i e
    rw [if_neg e] at h
    obtain ⟨g, h1, h2, h3⟩ := h
    exact ⟨g, h1, h2, h3.below hb h3.lt⟩
def madeSh (m : Nat) (i : Nat) (v : Value) : Prop := if i = 17 then ∃ g, v = .pointer (some ⟨g, 0, none⟩) else ∃ g, v = .slice (some ⟨g, 0, none⟩) 0 (m * m)
theorem madeSh_of {D m : Nat} (i : Nat) (v : Value) (w : World) (h : madePhi D m i v w) : madeSh m i v := by
  unfold madePhi at h
  unfold madeSh
  split <;> rename_i e
  · rw [if_pos e] at h
    exact ⟨h.choose, h.choose_spec.1⟩
  · rw [if_neg e] at h
    exact ⟨h.choose, h.choose_spec.1⟩
def madeMk (i : Nat) : Bool := i == 11 || i == 15 || i == 17

theorem idx_parts {m a b : Nat} (hb : b < m) : (a * m + b) / m = a ∧ (a * m + b) % m = b := by
  have hm : 0 < m := by omega
  refine ⟨?_, ?_⟩
  · rw [Nat.mul_comm, Nat.mul_add_div hm, Nat.div_eq_of_lt hb, Nat.add_zero]
  · rw [Nat.mul_comm, Nat.mul_add_mod, Nat.mod_eq_of_lt hb]
theorem tabZ_at {m a b : Nat} {f : Nat → Nat → Nat} (hb : b < m) : tabZ m f (a * m + b + 1) = tabZ m f (a * m + b) ++ [((f a b : Nat) : Int)] := by
  obtain ⟨e1, e2⟩ := idx_parts (a := a) hb
  rw [tabZ_succ, e1, e2]

end Go.Proofs.YtajoimopahibcaaGreat



/- Integers of both sides. -/
namespace Go.Proofs.YtajoimopahibcaaGreat
open Go.RowKit
set_option maxRecDepth 100000

end Go.Proofs.YtajoimopahibcaaGreat



/- The drawing side: draws of stage 2. -/
namespace Go.Proofs.YtajoimopahibcaaGreat
open Go.RowKit
set_option maxRecDepth 100000

end Go.Proofs.YtajoimopahibcaaGreat



/- The drawing side: l2Order, a list of new numbers. -/
namespace Go.Proofs.YtajoimopahibcaaGreat
open Go.RowKit
set_option maxRecDepth 100000

/-- A row of ints that a call has made. -/
def OrdR (D : Nat) (w : World) (b k cap : Nat) : Prop := ∃ L : List Int, L.length = k ∧ w.ownsRow D 3 1 (.slice (some ⟨b, 0, none⟩) k cap) k (intsV L)
section
variable {D b k cap g : Nat} {w w' : World}
theorem OrdR.lt (h : OrdR D w b k cap) : D ≤ b ∧ b < w.heap.size := by
  obtain ⟨L, _, h2⟩ := h
  exact h2.lt b rfl
theorem OrdR.wk (h : OrdR D w b k cap) (hw : Wk g w w') (hg : g < D) : OrdR D w' b k cap := by
  have h0 := h.lt
  obtain ⟨L, h1, h2⟩ := h
  exact ⟨L, h1, h2.kept hw.grown (.inr fun e => by injection e with e; have e : b = g := e; omega)⟩
theorem OrdR.next (h : OrdR D w b k cap) (hb : Below w.heap.size w w') : OrdR D w' b k cap := by
  obtain ⟨L, h1, h2⟩ := h
  exact ⟨L, h1, own_next h2 hb⟩
theorem OrdR.at_ (h : OrdR D w b k cap) {j : Nat} (hj : j < k) : (∃ x : Int, w.cell? ⟨b, j, none⟩ = some (.int .i64 x)) ∧ w.frozen? ⟨b, j, none⟩ = false := by
  obtain ⟨L, h1, h2⟩ := h
  refine ⟨⟨_, (h2.cellAt j (by omega)).trans (intsV_get (by omega))⟩, h2.frozenAt j⟩
theorem OrdR.set_ (h : OrdR D w b k cap) (j : Nat) (x : Int) : OrdR D (w.setCell ⟨b, j, none⟩ (.int .i64 x)) b k cap := by
  obtain ⟨L, h1, h2⟩ := h
  refine ⟨L.set j x, by simpa using h1, ?_⟩
  rw [← intsV_set]
  exact (h2.stored j (.int .i64 x)).1
end

end Go.Proofs.YtajoimopahibcaaGreat



/- Plain facts: rings whose tables are given by functions; the integers by a number. No program in sight. -/
namespace Go.Proofs.YtajoimopahibcaaGreat
open Go.RowKit

theorem tabOf_tabZ {m a b : Nat} {f : Nat → Nat → Nat} (ha : a < m) (hb : b < m) : tabOf (tabZ m f (m * m)) (a * m + b) = f a b := by
  have hk := idx_lt ha hb
  unfold tabOf tabZ
  rw [List.getElem?_map, List.getElem?_range hk]
  show ((f ((a * m + b) / m) ((a * m + b) % m) : Nat) : Int).toNat = f a b
  rw [(idx_parts hb).1, (idx_parts hb).2]
  simp
theorem tabZ_val {m k : Nat} {f : Nat → Nat → Nat} (hk : k < m * m) : (tabZ m f (m * m))[k]?.getD 0 = ((f (k / m) (k % m) : Nat) : Int) := by
  unfold tabZ
  rw [List.getElem?_map, List.getElem?_range hk]
  rfl
/-- Sums and products as functions make a ring. -/
structure FRing (m e : Nat) (f g : Nat → Nat → Nat) : Prop where
  hm : 1 ≤ m
  he : e < m
  fl : ∀ a b, a < m → b < m → f a b < m
  gl : ∀ a b, a < m → b < m → g a b < m
  f0 : ∀ a, a < m → f a 0 = a
  fc : ∀ a b, a < m → b < m → f a b = f b a
  fa : ∀ a b c, a < m → b < m → c < m → f (f a b) c = f a (f b c)
  fn : ∀ a, a < m → ∃ c, c < m ∧ f a c = 0
  g1 : ∀ a, a < m → g a e = a
  gc : ∀ a b, a < m → b < m → g a b = g b a
  ga : ∀ a b c, a < m → b < m → c < m → g (g a b) c = g a (g b c)
  d : ∀ a b c, a < m → b < m → c < m → g a (f b c) = f (g a b) (g a c)
theorem FRing.valid {m e : Nat} {f g : Nat → Nat → Nat} (F : FRing m e f g) (hm' : m ≤ 16) : validB m e (tabZ m f (m * m)) (tabZ m g (m * m)) = true := by
  have hp : ∀ {k}, k < m * m → k / m < m ∧ k % m < m := fun hk => parts2 hk
  unfold validB
  rw [Bool.and_eq_true]
  constructor
  · refine fitsB_iff.2 ⟨by have := F.hm; omega, by omega, ⟨by omega, by have := F.he; omega⟩, by simp [tabZ], by simp [tabZ], fun k hk => ?_, fun k hk => ?_⟩
    · have hk' : k < m * m := by simpa [tabZ] using hk
      rw [tabZ_val hk']
      have := F.fl _ _ (hp hk').1 (hp hk').2
      omega
    · have hk' : k < m * m := by simpa [tabZ] using hk
      rw [tabZ_val hk']
      have := F.gl _ _ (hp hk').1 (hp hk').2
      omega
  · simp only [Int.toNat_natCast]
    have z : 0 < m := F.hm
    refine laws_iff.2 ⟨fun a ha => ⟨?_, fun b hb => ⟨?_, fun c hc => ?_⟩⟩, fun a ha => ⟨?_, fun b hb => ⟨?_, fun c hc => ?_⟩⟩, fun a ha => ?_, fun a ha b hb c hc => ?_⟩
    · rw [tabOf_tabZ ha z]; exact F.f0 a ha
    · rw [tabOf_tabZ ha hb, tabOf_tabZ hb ha]; exact F.fc a b ha hb
    · unfold Law3
      rw [tabOf_tabZ ha hb, tabOf_tabZ hb hc, tabOf_tabZ (F.fl a b ha hb) hc, tabOf_tabZ ha (F.fl b c hb hc)]
      exact F.fa a b c ha hb hc
    · rw [tabOf_tabZ ha F.he]; exact F.g1 a ha
    · rw [tabOf_tabZ ha hb, tabOf_tabZ hb ha]; exact F.gc a b ha hb
    · unfold Law3
      rw [tabOf_tabZ ha hb, tabOf_tabZ hb hc, tabOf_tabZ (F.gl a b ha hb) hc, tabOf_tabZ ha (F.gl b c hb hc)]
      exact F.ga a b c ha hb hc
    · obtain ⟨c, hc, h⟩ := F.fn a ha
      exact rowL_mem (v := 0).2 ⟨c, hc, by rw [tabOf_tabZ ha hc]; exact h⟩
    · unfold Dist3
      rw [tabOf_tabZ hb hc, tabOf_tabZ ha (F.fl b c hb hc), tabOf_tabZ ha hb, tabOf_tabZ ha hc, tabOf_tabZ (F.gl a b ha hb) (F.gl a c ha hc)]
      exact F.d a b c ha hb hc
end Go.Proofs.YtajoimopahibcaaGreat

