
/- The methods of the making of the integers by a number. -/
import Derived.Test.YtocoegekdamlbaaG2
namespace Go.Proofs.Ytocoegekdamlbaa
open Go.RowKit
set_option maxRecDepth 100000

/-- What the walk of 'made' asks of a making: its methods, wherever the call stands. -/
structure Making (w0 : World) (mv : Value) (fsize fone felement fnumber fsum fproduct : Nat) (m o : Nat) (El : Nat → Value) (SV PV : Nat → Nat → Value) (S P : Nat → Nat → Nat) (oneV : Value) : Prop where
  size : ∀ w, Below w0.heap.size w0 w → Calls Try.prog fsize #[mv] w fun e w' => e = .returned (.int .i64 m) ∧ Below w.heap.size w w'
  one : ∀ w, Below w0.heap.size w0 w → Calls Try.prog fone #[mv] w fun e w' => e = .returned oneV ∧ Below w.heap.size w w'
  oneNum : ∀ w, Below w0.heap.size w0 w → Calls Try.prog fnumber #[mv, oneV] w fun e w' => e = .returned (.int .i64 o) ∧ Below w.heap.size w w'
  element : ∀ w, Below w0.heap.size w0 w → ∀ a, a < m → Calls Try.prog felement #[mv, .int .i64 a] w fun e w' => e = .returned (El a) ∧ Below w.heap.size w w'
  sum : ∀ w, Below w0.heap.size w0 w → ∀ a b, a < m → b < m → Calls Try.prog fsum #[mv, El a, El b] w fun e w' => e = .returned (SV a b) ∧ Below w.heap.size w w'
  product : ∀ w, Below w0.heap.size w0 w → ∀ a b, a < m → b < m → Calls Try.prog fproduct #[mv, El a, El b] w fun e w' => e = .returned (PV a b) ∧ Below w.heap.size w w'
  sumNum : ∀ w, Below w0.heap.size w0 w → ∀ a b, a < m → b < m → Calls Try.prog fnumber #[mv, SV a b] w fun e w' => e = .returned (.int .i64 (S a b)) ∧ Below w.heap.size w w'
  prodNum : ∀ w, Below w0.heap.size w0 w → ∀ a b, a < m → b < m → Calls Try.prog fnumber #[mv, PV a b] w fun e w' => e = .returned (.int .i64 (P a b)) ∧ Below w.heap.size w w'

end Go.Proofs.Ytocoegekdamlbaa
