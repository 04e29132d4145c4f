
/- The contracts of Add, Mul, Neg, Times, Power and CharacteristicOf, of both sides. -/
import Derived.Test.YtocoegekdamlbaaB2
namespace Go.Proofs.Ytocoegekdamlbaa
open Go.RowKit

/-- What Add (T the sums) and Mul (T the products) return. -/
noncomputable def opV (T : Nat → Nat) (n o : Int) (X Y : List Int) (a b : Int) : Int := if validB n o X Y = true ∧ inB n a = true ∧ inB n b = true then (T (a.toNat * n.toNat + b.toNat) : Nat) else -1
theorem opV_no {T : Nat → Nat} {n o : Int} {X Y : List Int} {a b : Int} (h : ¬ (validB n o X Y = true ∧ inB n a = true ∧ inB n b = true)) : opV T n o X Y a b = -1 := if_neg h
theorem opV_yes {T : Nat → Nat} {m e a b : Nat} {X Y : List Int} (h : validB m e X Y = true) (ha : inB m a = true) (hb : inB m b = true) : opV T m e X Y a b = (T (a * m + b) : Nat) := if_pos ⟨h, ha, hb⟩
end Go.Proofs.Ytocoegekdamlbaa
