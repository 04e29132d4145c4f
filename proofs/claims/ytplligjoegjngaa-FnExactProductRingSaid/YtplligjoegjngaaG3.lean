/- The methods of the making of the integers by a number. -/
import Derived.Test.YtplligjoegjngaaG2
namespace Go.Proofs.Ytplligjoegjngaa
open Go.RowKit
set_option maxRecDepth 100000

theorem ibSize_any (m : Nat) (w : World) : Calls Try.prog 177 #[.agg #[.int .i64 m]] w fun e w' => e = .returned (.int .i64 m) ∧ Below w.heap.size w w' := by
  go_enter Try.func177, Try.ntmps177
  go_wp2
  go_ret
  exact ⟨rfl, (Below.refl _ _).alloc (Nat.le_refl _) _⟩
theorem ibOne_any (m : Nat) (hm : 1 ≤ m) (w : World) : Calls Try.prog 175 #[.agg #[.int .i64 m]] w fun e w' => e = .returned (.int .i64 ((1 % m : Nat) : Int)) ∧ Below w.heap.size w w' := by
  have h0 : ¬ m = 0 := by omega
  go_enter Try.func175, Try.ntmps175
  go_wp2
  go_ret
  exact ⟨by simp, (Below.refl _ _).alloc (Nat.le_refl _) _⟩
theorem ibElement_any (m : Nat) (x : Int) (w : World) : Calls Try.prog 173 #[.agg #[.int .i64 m], .int .i64 x] w fun e w' => e = .returned (.int .i64 x) ∧ Below w.heap.size w w' := by
  go_enter Try.func173, Try.ntmps173
  go_wp2
  go_ret
  exact ⟨rfl, (Below.refl _ _).alloc (Nat.le_refl _) _⟩
theorem ibNumber_any (m : Nat) (x : Int) (w : World) : Calls Try.prog 174 #[.agg #[.int .i64 m], .int .i64 x] w fun e w' => e = .returned (.int .i64 x) ∧ Below w.heap.size w w' := by
  go_enter Try.func174, Try.ntmps174
  go_wp2
  go_ret
  exact ⟨rfl, (Below.refl _ _).alloc (Nat.le_refl _) _⟩
theorem ibSum_any (m a b : Nat) (hm' : m ≤ 16) (ha : a < m) (hb : b < m) (w : World) : Calls Try.prog 178 #[.agg #[.int .i64 m], .int .i64 a, .int .i64 b] w fun e w' => e = .returned (.int .i64 (((a + b) % m : Nat) : Int)) ∧ Below w.heap.size w w' := by
  have h0 : ¬ m = 0 := by omega
  have h1 : (a : Int) + b ≤ 32 := by omega
  have hw1 : IntKind.i64.wrap ((a : Int) + b) = (a : Int) + b := IntWalk.i64_in _ (by omega)
  have hw2 : ((a : Int) + b).tmod m = (((a + b) % m : Nat) : Int) := by rw [Int.tmod_eq_emod_of_nonneg (by omega)]; simp
  go_enter Try.func178, Try.ntmps178
  go_wp2
  go_ret
  exact ⟨by simp, (Below.refl _ _).alloc (Nat.le_refl _) _⟩
theorem ibProduct_any (m a b : Nat) (hm' : m ≤ 16) (ha : a < m) (hb : b < m) (w : World) : Calls Try.prog 176 #[.agg #[.int .i64 m], .int .i64 a, .int .i64 b] w fun e w' => e = .returned (.int .i64 ((a * b % m : Nat) : Int)) ∧ Below w.heap.size w w' := by
  have h0 : ¬ m = 0 := by omega
  have hab : (a : Int) * b = ((a * b : Nat) : Int) := by simp
  have hab2 : a * b ≤ 16 * 16 := Nat.mul_le_mul (by omega) (by omega)
  have hw1 : IntKind.i64.wrap ((a : Int) * b) = (a : Int) * b := IntWalk.i64_in _ (by rw [hab]; omega)
  have hw2 : ((a : Int) * b).tmod m = ((a * b % m : Nat) : Int) := by rw [Int.tmod_eq_emod_of_nonneg (by rw [hab]; omega)]; simp
  have hab3 : (0 : Int) ≤ (a : Int) * b := by rw [hab]; omega
  have hab4 : (a : Int) * b ≤ 256 := by rw [hab]; omega
  clear hab hab2
  go_enter Try.func176, Try.ntmps176
  go_wp2
  go_ret
  exact ⟨by simp, (Below.refl _ _).alloc (Nat.le_refl _) _⟩

/-- What the walk of 'made' asks of a making: its methods, wherever the call stands. -/
structure Making (w0 : World) (mv : Value) (fsize fone felement fnumber fsum fproduct : Nat) (m o : Nat) (El : Nat → Value) (SV PV : Nat → Nat → Value) (S P : Nat → Nat → Nat) (oneV : Value) : Prop where
  size : ∀ w, Below w0.heap.size w0 w → Calls Try.prog fsize #[mv] w fun e w' => e = .returned (.int .i64 m) ∧ Below w.heap.size w w'
  one : ∀ w, Below w0.heap.size w0 w → Calls Try.prog fone #[mv] w fun e w' => e = .returned oneV ∧ Below w.heap.size w w'
  oneNum : ∀ w, Below w0.heap.size w0 w → Calls Try.prog fnumber #[mv, oneV] w fun e w' => e = .returned (.int .i64 o) ∧ Below w.heap.size w w'
  element : ∀ w, Below w0.heap.size w0 w → ∀ a, a < m → Calls Try.prog felement #[mv, .int .i64 a] w fun e w' => e = .returned (El a) ∧ Below w.heap.size w w'
  sum : ∀ w, Below w0.heap.size w0 w → ∀ a b, a < m → b < m → Calls Try.prog fsum #[mv, El a, El b] w fun e w' => e = .returned (SV a b) ∧ Below w.heap.size w w'
  product : ∀ w, Below w0.heap.size w0 w → ∀ a b, a < m → b < m → Calls Try.prog fproduct #[mv, El a, El b] w fun e w' => e = .returned (PV a b) ∧ Below w.heap.size w w'
  sumNum : ∀ w, Below w0.heap.size w0 w → ∀ a b, a < m → b < m → Calls Try.prog fnumber #[mv, SV a b] w fun e w' => e = .returned (.int .i64 (S a b)) ∧ Below w.heap.size w w'
  prodNum : ∀ w, Below w0.heap.size w0 w → ∀ a b, a < m → b < m → Calls Try.prog fnumber #[mv, PV a b] w fun e w' => e = .returned (.int .i64 (P a b)) ∧ Below w.heap.size w w'

end Go.Proofs.Ytplligjoegjngaa
