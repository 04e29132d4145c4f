
/- Makers: rows of ints, boxes of rings. -/
import Derived.Test.YtocoegekdamlbaaM2
import Derived.Test.YtocoegekdamlbaaG2
import Derived.Deep.OwnRows
namespace Go.Proofs.Ytocoegekdamlbaa
open Go.RowKit
set_option maxRecDepth 100000

theorem probe : Probe Try.prog := ⟨48, Try.f48, 4, by kernel_rfl, by kernel_rfl, by kernel_rfl, by decide⟩
theorem makesAt_mono {P : Program} {o : Oper} {a : Act} {w : World} {F F' : Value → World → Prop} (h : makesAt P o a w F) (hF : ∀ v w', F v w' → F' v w') : makesAt P o a w F' := by
  unfold makesAt at *
  generalize (execOp a.eval o).run P w = r at *
  cases r with
  | ok n w' =>
    cases n <;> simp only [makesUpon] at h ⊢
    case value u => exact ⟨h.1, hF _ _ h.2.1, h.2.2⟩
    case enter f args => exact ⟨h.1, h.2.mono fun e w'' ⟨u, h1, h2, h3, h4⟩ => ⟨u, h1, h2, hF _ _ h3, h4⟩⟩
  | halt x w' => simp only [makesUpon] at h
/-- A row of ints. -/
theorem makes_row {o : Oper} {a : Act} (l c : Operand) (L C : Nat) (kl kc : IntKind) (hop : o.op = .makeSlice 22 l c) (hl : a.eval l = .int kl (L : Int)) (hc : a.eval c = .int kc (C : Int)) (h1 : L ≤ C) (h2 : C ≤ 1048576) (w : World) :
    makesAt Try.prog o a w fun v w' => ∃ g, v = .slice (some ⟨g, 0, none⟩) L C ∧ w.heap.size ≤ g ∧ Blk w' g 3 (madeCells #[.int .i64 0] C) := by
  obtain ⟨i0, hi, hz0, hz1, hz2⟩ := info_parts int_info
  have hr := run_make (P := Try.prog) w 22 3 i0 (.int .i64 0) Try.underlying22 hi hz0 kl kc L C (by omega) (by omega) (by rw [hz2]; omega) (by omega)
  simp only [Int.toNat_natCast, hz1, Nat.mul_one] at hr
  unfold makesAt
  simp only [execOp, hop, hl, hc, Sem.run_bind, hr, Result.andThen_ok, Sem.run_pure, makesUpon]
  exact ⟨(Below.refl _ _).alloc (Nat.le_refl _) _, ⟨w.heap.size, rfl, Nat.le_refl _, Blk.new w _ _⟩, fun b hb => by simp [blockOf] at hb; subst hb; simp⟩
/-- A box of a ring. -/
theorem makes_box {o : Oper} {a : Act} (hop : o.op = .alloc 28) (w : World) :
    makesAt Try.prog o a w fun v w' => ∃ g, v = .pointer (some ⟨g, 0, none⟩) ∧ w.heap.size ≤ g ∧ Blk w' g 28 #[.int .i64 0, .int .i64 0, .slice none 0 0, .slice none 0 0] := by
  unfold makesAt
  simp only [execOp, hop]
  go_simp
  refine ⟨(Below.refl _ _).alloc (Nat.le_refl _) _, ⟨w.heap.size, rfl, Nat.le_refl _, Blk.new w _ _⟩, fun b hb => ?_⟩
  simp [blockOf] at hb
  subst hb
  simp
theorem blk_ne {w : World} {g g' : Nat} {t t' : TypeId} {cs cs' : Array Value} (h : Blk w g t cs) (h' : Blk w g' t' cs') (hne : t ≠ t') : g ≠ g' := by
  rintro rfl
  unfold Blk at h h'
  rw [h] at h'
  injection h' with h'
  injection h' with _ ht
  exact hne ht
theorem own_of_blk {w : World} {D g C : Nat} (h : Blk w g 3 (madeCells #[.int .i64 0] C)) (hD : D ≤ g) (hC : C ≤ 1048576) : w.ownsRow D 3 1 (.slice (some ⟨g, 0, none⟩) 0 C) 0 [] :=
  ⟨rfl, .inr ⟨g, C, _, rfl, hD, h, Nat.zero_le _, by unfold maxLen; omega, by simp [madeCells], by simp⟩⟩

def appPhi (D : Nat) (x : Value) (_ : Nat) (v : Value) (w : World) : Prop := ∃ g, v = .slice (some ⟨g, 0, none⟩) 1 1 ∧ D ≤ g ∧ Blk w g 3 #[x]
def appSh (_ : Nat) (v : Value) : Prop := ∃ g, v = .slice (some ⟨g, 0, none⟩) 1 1
theorem appPhi_stable {D : Nat} {x : Value} (i : Nat) (v : Value) (w w' : World) (h : appPhi D x i v w) (hb : Below w.heap.size w w') : appPhi D x i v w' := by
  obtain ⟨g, h1, h2, h3⟩ := h
  exact ⟨g, h1, h2, h3.below hb h3.lt⟩
theorem appSh_of {D : Nat} {x : Value} (i : Nat) (v : Value) (w : World) (h : appPhi D x i v w) : appSh i v := by
  obtain ⟨g, h1, _⟩ := h
  exact ⟨g, h1⟩
/-- A row of one int. -/
theorem makes_one {o : Oper} {a : Act} (x : Operand) (n : Int) (hop : o.op = .buildSlice 22 1 #[(0, x)]) (hx : a.eval x = .int .i64 n) (w : World) :
    makesAt Try.prog o a w fun v w' => ∃ g, v = .slice (some ⟨g, 0, none⟩) 1 1 ∧ w.heap.size ≤ g ∧ Blk w' g 3 #[.int .i64 n] := by
  unfold makesAt
  generalize a.eval = ev at hx ⊢
  simp only [execOp, hop]
  go_simp
  refine ⟨(Below.refl _ _).alloc (Nat.le_refl _) _, ⟨w.heap.size, rfl, Nat.le_refl _, Blk.new w _ _⟩, fun b hb => ?_⟩
  simp [blockOf] at hb
  subst hb
  simp

end Go.Proofs.Ytocoegekdamlbaa
