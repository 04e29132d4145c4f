/-
  No cell of these rows narrows 'for every input' (looked for: loops, veiled, ifaces, maps, wideKeys, modest, calm, conditions, laid).
  DERIVED. THE GIVEN ROWS OF THIS SEAT. 12 by the template 'for every input the law returns true; each argument reads behind the call as it read before'; 0 by the template 'total and deterministic' (their statements: YtocoegekdamlbaaTotals.lean).
  GIVEN WITH THE SEED: the statements are not yours to turn. If you find one false, say at which input.
  Laid BY PROGRAM, IN A SANDBOX (cutbox-rows.mjs): the forced cells as the released guide's own fill.sh prints them over the translation e735351135dcd731… (all of the seat's roots in one cut). By AI agents, Wed Nov 11 2026. No macro, syntax, notation, axiom, sorry.
-/
import Derived.Test.YtocoegekdamlbaaChecked
import GoSem.Claim
import GoSem.ClaimJoined
import GoSem.ClaimMapViews
import Derived.JoinedTies
import Derived.KernelRfl
namespace Go.Proofs.Ytocoegekdamlbaa
/- THE CELL 'sum', in the pinned program and in every row, IS THE sha256 OF THE DUMP (.gsa) THAT YtocoegekdamlbaaProg.lean LOADS. Nothing in Lean hashes anything: it is a label: what it is worth is what the hold of that sum in a sandbox is worth. -/
noncomputable def Try.pinned : Pinned := { name := "ytocoegekdamlbaa", sum := "e735351135dcd731bb60c874292c714e1f9ad5022912694f7b9633cb9d60e895", checked := Try.checked }
namespace Rows
def none {H : Type} : Left H := { results := [], args := [] }

/-- 'laws.FnExactCoefficientsOf': WHATEVER THE INPUT: true; the input reads as it did. -/
def fnExactCoefficientsOfSpec : ChangeSpec := { name := "fnExactCoefficientsOf", fn := fun _ => fun
  | [d1, d2, d3] => { results := [.lit (.bool true)], args := [d1, d2, d3] }
  | _ => none }
def fnExactCoefficientsOfRow : OpenClaim := { program := "ytocoegekdamlbaa", sum := "e735351135dcd731bb60c874292c714e1f9ad5022912694f7b9633cb9d60e895", func := "loop.example/finiterings/laws.FnExactCoefficientsOf", spec := "fnExactCoefficientsOf", apart := false }
def FnExactCoefficientsOfSaid : Prop := fnExactCoefficientsOfRow.holds Try.pinned (OpenSpec.ofChange fnExactCoefficientsOfSpec)

/-- ITS FALSE NEIGHBOUR: 'it returns false'. Refute it at one input. -/
def fnExactCoefficientsOfWrong : ChangeSpec := { name := "fnExactCoefficientsOf", fn := fun _ => fun
  | [d1, d2, d3] => { results := [.lit (.bool false)], args := [d1, d2, d3] }
  | _ => none }
def FnExactCoefficientsOfWrongFalsely : Prop := fnExactCoefficientsOfRow.holds Try.pinned (OpenSpec.ofChange fnExactCoefficientsOfWrong)

/-- 'laws.FnExactRenameRing': WHATEVER THE INPUT: true; the input reads as it did. -/
def fnExactRenameRingSpec : ChangeSpec := { name := "fnExactRenameRing", fn := fun _ => fun
  | [d1, d2] => { results := [.lit (.bool true)], args := [d1, d2] }
  | _ => none }
def fnExactRenameRingRow : OpenClaim := { program := "ytocoegekdamlbaa", sum := "e735351135dcd731bb60c874292c714e1f9ad5022912694f7b9633cb9d60e895", func := "loop.example/finiterings/laws.FnExactRenameRing", spec := "fnExactRenameRing", unfollowed := true, recurses := true, apart := false }
def FnExactRenameRingSaid : Prop := fnExactRenameRingRow.holds Try.pinned (OpenSpec.ofChange fnExactRenameRingSpec)

/-- ITS FALSE NEIGHBOUR: 'it returns false'. Refute it at one input. -/
def fnExactRenameRingWrong : ChangeSpec := { name := "fnExactRenameRing", fn := fun _ => fun
  | [d1, d2] => { results := [.lit (.bool false)], args := [d1, d2] }
  | _ => none }
def FnExactRenameRingWrongFalsely : Prop := fnExactRenameRingRow.holds Try.pinned (OpenSpec.ofChange fnExactRenameRingWrong)

/-- 'laws.FnExactUnitsOf': WHATEVER THE INPUT: true; the input reads as it did. -/
def fnExactUnitsOfSpec : ChangeSpec := { name := "fnExactUnitsOf", fn := fun _ => fun
  | [d] => { results := [.lit (.bool true)], args := [d] }
  | _ => none }
def fnExactUnitsOfRow : OpenClaim := { program := "ytocoegekdamlbaa", sum := "e735351135dcd731bb60c874292c714e1f9ad5022912694f7b9633cb9d60e895", func := "loop.example/finiterings/laws.FnExactUnitsOf", spec := "fnExactUnitsOf", unfollowed := true, recurses := true, apart := false }
def FnExactUnitsOfSaid : Prop := fnExactUnitsOfRow.holds Try.pinned (OpenSpec.ofChange fnExactUnitsOfSpec)

/-- ITS FALSE NEIGHBOUR: 'it returns false'. Refute it at one input. -/
def fnExactUnitsOfWrong : ChangeSpec := { name := "fnExactUnitsOf", fn := fun _ => fun
  | [d] => { results := [.lit (.bool false)], args := [d] }
  | _ => none }
def FnExactUnitsOfWrongFalsely : Prop := fnExactUnitsOfRow.holds Try.pinned (OpenSpec.ofChange fnExactUnitsOfWrong)

/-- 'laws.FnExactInverseOf': WHATEVER THE INPUT: true; the input reads as it did. -/
def fnExactInverseOfSpec : ChangeSpec := { name := "fnExactInverseOf", fn := fun _ => fun
  | [d1, d2] => { results := [.lit (.bool true)], args := [d1, d2] }
  | _ => none }
def fnExactInverseOfRow : OpenClaim := { program := "ytocoegekdamlbaa", sum := "e735351135dcd731bb60c874292c714e1f9ad5022912694f7b9633cb9d60e895", func := "loop.example/finiterings/laws.FnExactInverseOf", spec := "fnExactInverseOf", apart := false }
def FnExactInverseOfSaid : Prop := fnExactInverseOfRow.holds Try.pinned (OpenSpec.ofChange fnExactInverseOfSpec)

/-- ITS FALSE NEIGHBOUR: 'it returns false'. Refute it at one input. -/
def fnExactInverseOfWrong : ChangeSpec := { name := "fnExactInverseOf", fn := fun _ => fun
  | [d1, d2] => { results := [.lit (.bool false)], args := [d1, d2] }
  | _ => none }
def FnExactInverseOfWrongFalsely : Prop := fnExactInverseOfRow.holds Try.pinned (OpenSpec.ofChange fnExactInverseOfWrong)

/-- 'laws.FnExactZeroDivisorsOf': WHATEVER THE INPUT: true; the input reads as it did. -/
def fnExactZeroDivisorsOfSpec : ChangeSpec := { name := "fnExactZeroDivisorsOf", fn := fun _ => fun
  | [d] => { results := [.lit (.bool true)], args := [d] }
  | _ => none }
def fnExactZeroDivisorsOfRow : OpenClaim := { program := "ytocoegekdamlbaa", sum := "e735351135dcd731bb60c874292c714e1f9ad5022912694f7b9633cb9d60e895", func := "loop.example/finiterings/laws.FnExactZeroDivisorsOf", spec := "fnExactZeroDivisorsOf", unfollowed := true, recurses := true, apart := false }
def FnExactZeroDivisorsOfSaid : Prop := fnExactZeroDivisorsOfRow.holds Try.pinned (OpenSpec.ofChange fnExactZeroDivisorsOfSpec)

/-- ITS FALSE NEIGHBOUR: 'it returns false'. Refute it at one input. -/
def fnExactZeroDivisorsOfWrong : ChangeSpec := { name := "fnExactZeroDivisorsOf", fn := fun _ => fun
  | [d] => { results := [.lit (.bool false)], args := [d] }
  | _ => none }
def FnExactZeroDivisorsOfWrongFalsely : Prop := fnExactZeroDivisorsOfRow.holds Try.pinned (OpenSpec.ofChange fnExactZeroDivisorsOfWrong)

/-- 'laws.FnExactNilpotentsOf': WHATEVER THE INPUT: true; the input reads as it did. -/
def fnExactNilpotentsOfSpec : ChangeSpec := { name := "fnExactNilpotentsOf", fn := fun _ => fun
  | [d] => { results := [.lit (.bool true)], args := [d] }
  | _ => none }
def fnExactNilpotentsOfRow : OpenClaim := { program := "ytocoegekdamlbaa", sum := "e735351135dcd731bb60c874292c714e1f9ad5022912694f7b9633cb9d60e895", func := "loop.example/finiterings/laws.FnExactNilpotentsOf", spec := "fnExactNilpotentsOf", unfollowed := true, recurses := true, apart := false }
def FnExactNilpotentsOfSaid : Prop := fnExactNilpotentsOfRow.holds Try.pinned (OpenSpec.ofChange fnExactNilpotentsOfSpec)

/-- ITS FALSE NEIGHBOUR: 'it returns false'. Refute it at one input. -/
def fnExactNilpotentsOfWrong : ChangeSpec := { name := "fnExactNilpotentsOf", fn := fun _ => fun
  | [d] => { results := [.lit (.bool false)], args := [d] }
  | _ => none }
def FnExactNilpotentsOfWrongFalsely : Prop := fnExactNilpotentsOfRow.holds Try.pinned (OpenSpec.ofChange fnExactNilpotentsOfWrong)

/-- 'laws.FnExactIdempotentsOf': WHATEVER THE INPUT: true; the input reads as it did. -/
def fnExactIdempotentsOfSpec : ChangeSpec := { name := "fnExactIdempotentsOf", fn := fun _ => fun
  | [d] => { results := [.lit (.bool true)], args := [d] }
  | _ => none }
def fnExactIdempotentsOfRow : OpenClaim := { program := "ytocoegekdamlbaa", sum := "e735351135dcd731bb60c874292c714e1f9ad5022912694f7b9633cb9d60e895", func := "loop.example/finiterings/laws.FnExactIdempotentsOf", spec := "fnExactIdempotentsOf", unfollowed := true, recurses := true, apart := false }
def FnExactIdempotentsOfSaid : Prop := fnExactIdempotentsOfRow.holds Try.pinned (OpenSpec.ofChange fnExactIdempotentsOfSpec)

/-- ITS FALSE NEIGHBOUR: 'it returns false'. Refute it at one input. -/
def fnExactIdempotentsOfWrong : ChangeSpec := { name := "fnExactIdempotentsOf", fn := fun _ => fun
  | [d] => { results := [.lit (.bool false)], args := [d] }
  | _ => none }
def FnExactIdempotentsOfWrongFalsely : Prop := fnExactIdempotentsOfRow.holds Try.pinned (OpenSpec.ofChange fnExactIdempotentsOfWrong)

/-- 'laws.FnExactSumOrderOf': WHATEVER THE INPUT: true; the input reads as it did. -/
def fnExactSumOrderOfSpec : ChangeSpec := { name := "fnExactSumOrderOf", fn := fun _ => fun
  | [d1, d2] => { results := [.lit (.bool true)], args := [d1, d2] }
  | _ => none }
def fnExactSumOrderOfRow : OpenClaim := { program := "ytocoegekdamlbaa", sum := "e735351135dcd731bb60c874292c714e1f9ad5022912694f7b9633cb9d60e895", func := "loop.example/finiterings/laws.FnExactSumOrderOf", spec := "fnExactSumOrderOf", apart := false }
def FnExactSumOrderOfSaid : Prop := fnExactSumOrderOfRow.holds Try.pinned (OpenSpec.ofChange fnExactSumOrderOfSpec)

/-- ITS FALSE NEIGHBOUR: 'it returns false'. Refute it at one input. -/
def fnExactSumOrderOfWrong : ChangeSpec := { name := "fnExactSumOrderOf", fn := fun _ => fun
  | [d1, d2] => { results := [.lit (.bool false)], args := [d1, d2] }
  | _ => none }
def FnExactSumOrderOfWrongFalsely : Prop := fnExactSumOrderOfRow.holds Try.pinned (OpenSpec.ofChange fnExactSumOrderOfWrong)

/-- 'laws.FnExactUnitOrderOf': WHATEVER THE INPUT: true; the input reads as it did. -/
def fnExactUnitOrderOfSpec : ChangeSpec := { name := "fnExactUnitOrderOf", fn := fun _ => fun
  | [d1, d2] => { results := [.lit (.bool true)], args := [d1, d2] }
  | _ => none }
def fnExactUnitOrderOfRow : OpenClaim := { program := "ytocoegekdamlbaa", sum := "e735351135dcd731bb60c874292c714e1f9ad5022912694f7b9633cb9d60e895", func := "loop.example/finiterings/laws.FnExactUnitOrderOf", spec := "fnExactUnitOrderOf", apart := false }
def FnExactUnitOrderOfSaid : Prop := fnExactUnitOrderOfRow.holds Try.pinned (OpenSpec.ofChange fnExactUnitOrderOfSpec)

/-- ITS FALSE NEIGHBOUR: 'it returns false'. Refute it at one input. -/
def fnExactUnitOrderOfWrong : ChangeSpec := { name := "fnExactUnitOrderOf", fn := fun _ => fun
  | [d1, d2] => { results := [.lit (.bool false)], args := [d1, d2] }
  | _ => none }
def FnExactUnitOrderOfWrongFalsely : Prop := fnExactUnitOrderOfRow.holds Try.pinned (OpenSpec.ofChange fnExactUnitOrderOfWrong)

/-- 'laws.FnExactAssociatesOf': WHATEVER THE INPUT: true; the input reads as it did. -/
def fnExactAssociatesOfSpec : ChangeSpec := { name := "fnExactAssociatesOf", fn := fun _ => fun
  | [d1, d2] => { results := [.lit (.bool true)], args := [d1, d2] }
  | _ => none }
def fnExactAssociatesOfRow : OpenClaim := { program := "ytocoegekdamlbaa", sum := "e735351135dcd731bb60c874292c714e1f9ad5022912694f7b9633cb9d60e895", func := "loop.example/finiterings/laws.FnExactAssociatesOf", spec := "fnExactAssociatesOf", unfollowed := true, recurses := true, apart := false }
def FnExactAssociatesOfSaid : Prop := fnExactAssociatesOfRow.holds Try.pinned (OpenSpec.ofChange fnExactAssociatesOfSpec)

/-- ITS FALSE NEIGHBOUR: 'it returns false'. Refute it at one input. -/
def fnExactAssociatesOfWrong : ChangeSpec := { name := "fnExactAssociatesOf", fn := fun _ => fun
  | [d1, d2] => { results := [.lit (.bool false)], args := [d1, d2] }
  | _ => none }
def FnExactAssociatesOfWrongFalsely : Prop := fnExactAssociatesOfRow.holds Try.pinned (OpenSpec.ofChange fnExactAssociatesOfWrong)

/-- 'laws.FnExactIsField': WHATEVER THE INPUT: true; the input reads as it did. -/
def fnExactIsFieldSpec : ChangeSpec := { name := "fnExactIsField", fn := fun _ => fun
  | [d] => { results := [.lit (.bool true)], args := [d] }
  | _ => none }
def fnExactIsFieldRow : OpenClaim := { program := "ytocoegekdamlbaa", sum := "e735351135dcd731bb60c874292c714e1f9ad5022912694f7b9633cb9d60e895", func := "loop.example/finiterings/laws.FnExactIsField", spec := "fnExactIsField", unfollowed := true, recurses := true, apart := false }
def FnExactIsFieldSaid : Prop := fnExactIsFieldRow.holds Try.pinned (OpenSpec.ofChange fnExactIsFieldSpec)

/-- ITS FALSE NEIGHBOUR: 'it returns false'. Refute it at one input. -/
def fnExactIsFieldWrong : ChangeSpec := { name := "fnExactIsField", fn := fun _ => fun
  | [d] => { results := [.lit (.bool false)], args := [d] }
  | _ => none }
def FnExactIsFieldWrongFalsely : Prop := fnExactIsFieldRow.holds Try.pinned (OpenSpec.ofChange fnExactIsFieldWrong)

/-- 'laws.FnExactKindsOf': WHATEVER THE INPUT: true; the input reads as it did. -/
def fnExactKindsOfSpec : ChangeSpec := { name := "fnExactKindsOf", fn := fun _ => fun
  | [d1, d2] => { results := [.lit (.bool true)], args := [d1, d2] }
  | _ => none }
def fnExactKindsOfRow : OpenClaim := { program := "ytocoegekdamlbaa", sum := "e735351135dcd731bb60c874292c714e1f9ad5022912694f7b9633cb9d60e895", func := "loop.example/finiterings/laws.FnExactKindsOf", spec := "fnExactKindsOf", unfollowed := true, recurses := true, apart := false }
def FnExactKindsOfSaid : Prop := fnExactKindsOfRow.holds Try.pinned (OpenSpec.ofChange fnExactKindsOfSpec)

/-- ITS FALSE NEIGHBOUR: 'it returns false'. Refute it at one input. -/
def fnExactKindsOfWrong : ChangeSpec := { name := "fnExactKindsOf", fn := fun _ => fun
  | [d1, d2] => { results := [.lit (.bool false)], args := [d1, d2] }
  | _ => none }
def FnExactKindsOfWrongFalsely : Prop := fnExactKindsOfRow.holds Try.pinned (OpenSpec.ofChange fnExactKindsOfWrong)

/- THE SECOND FORM. 'bulk': how many values and letters a reading holds, each counted each time it is reached (what is shared counts as often as it is met; a slice's spare places count too). A statement '..UptoSaid' is the law's where the arguments, and the package variables that the reading takes, are together of bulk at most 1048576: NARROWER than '..Said'. Prove '..Said' where nothing that the law and all that it calls make is longer than what came in: it says more and counts as full. Else prove '..UptoSaid'. A law counts once. -/
mutual
def uptoBulk {H : Type} : DataW H → Nat
  | .lit (.string bytes) => bytes.length + 1
  | .lit _ => 1
  | .nil => 1
  | .ptr d => uptoBulk d + 1
  | .slice elems spare => uptoBulkAll elems + uptoBulkAll spare + 1
  | .agg parts => uptoBulkAll parts + 1
  | .iface _ d => uptoBulk d + 1
  | .map entries => uptoBulkEntries entries + 1
  | .held _ => 1
def uptoBulkAll {H : Type} : List (DataW H) → Nat
  | [] => 0
  | d :: r => uptoBulk d + uptoBulkAll r
def uptoBulkEntries {H : Type} : List (Lit × DataW H) → Nat
  | [] => 0
  | x :: r => uptoBulkEntry x + uptoBulkEntries r
def uptoBulkEntry {H : Type} : Lit × DataW H → Nat
  | (.string bytes, d) => bytes.length + uptoBulk d + 1
  | (_, d) => uptoBulk d + 1
 end
def uptoSmall : (H : Type) → List (DataW H) → Bool := fun _ ds => decide (uptoBulkAll ds ≤ 1048576)
def OpenSpec.upto (s : _root_.Go.ChangeSpec) : _root_.Go.OpenSpec := { _root_.Go.OpenSpec.ofChange s with cond := some uptoSmall }

/-- 'laws.FnExactCoefficientsOf', WHERE WHAT IT READS IS OF BULK AT MOST 1048576: true; the input reads as it did. -/
def fnExactCoefficientsOfUptoRow : OpenClaim := { program := "ytocoegekdamlbaa", sum := "e735351135dcd731bb60c874292c714e1f9ad5022912694f7b9633cb9d60e895", func := "loop.example/finiterings/laws.FnExactCoefficientsOf", spec := "fnExactCoefficientsOf", apart := false, narrowed := true }
def FnExactCoefficientsOfUptoSaid : Prop := fnExactCoefficientsOfUptoRow.holds Try.pinned (OpenSpec.upto fnExactCoefficientsOfSpec)

/-- 'laws.FnExactRenameRing', WHERE WHAT IT READS IS OF BULK AT MOST 1048576: true; the input reads as it did. -/
def fnExactRenameRingUptoRow : OpenClaim := { program := "ytocoegekdamlbaa", sum := "e735351135dcd731bb60c874292c714e1f9ad5022912694f7b9633cb9d60e895", func := "loop.example/finiterings/laws.FnExactRenameRing", spec := "fnExactRenameRing", unfollowed := true, recurses := true, apart := false, narrowed := true }
def FnExactRenameRingUptoSaid : Prop := fnExactRenameRingUptoRow.holds Try.pinned (OpenSpec.upto fnExactRenameRingSpec)

/-- 'laws.FnExactUnitsOf', WHERE WHAT IT READS IS OF BULK AT MOST 1048576: true; the input reads as it did. -/
def fnExactUnitsOfUptoRow : OpenClaim := { program := "ytocoegekdamlbaa", sum := "e735351135dcd731bb60c874292c714e1f9ad5022912694f7b9633cb9d60e895", func := "loop.example/finiterings/laws.FnExactUnitsOf", spec := "fnExactUnitsOf", unfollowed := true, recurses := true, apart := false, narrowed := true }
def FnExactUnitsOfUptoSaid : Prop := fnExactUnitsOfUptoRow.holds Try.pinned (OpenSpec.upto fnExactUnitsOfSpec)

/-- 'laws.FnExactInverseOf', WHERE WHAT IT READS IS OF BULK AT MOST 1048576: true; the input reads as it did. -/
def fnExactInverseOfUptoRow : OpenClaim := { program := "ytocoegekdamlbaa", sum := "e735351135dcd731bb60c874292c714e1f9ad5022912694f7b9633cb9d60e895", func := "loop.example/finiterings/laws.FnExactInverseOf", spec := "fnExactInverseOf", apart := false, narrowed := true }
def FnExactInverseOfUptoSaid : Prop := fnExactInverseOfUptoRow.holds Try.pinned (OpenSpec.upto fnExactInverseOfSpec)

/-- 'laws.FnExactZeroDivisorsOf', WHERE WHAT IT READS IS OF BULK AT MOST 1048576: true; the input reads as it did. -/
def fnExactZeroDivisorsOfUptoRow : OpenClaim := { program := "ytocoegekdamlbaa", sum := "e735351135dcd731bb60c874292c714e1f9ad5022912694f7b9633cb9d60e895", func := "loop.example/finiterings/laws.FnExactZeroDivisorsOf", spec := "fnExactZeroDivisorsOf", unfollowed := true, recurses := true, apart := false, narrowed := true }
def FnExactZeroDivisorsOfUptoSaid : Prop := fnExactZeroDivisorsOfUptoRow.holds Try.pinned (OpenSpec.upto fnExactZeroDivisorsOfSpec)

/-- 'laws.FnExactNilpotentsOf', WHERE WHAT IT READS IS OF BULK AT MOST 1048576: true; the input reads as it did. -/
def fnExactNilpotentsOfUptoRow : OpenClaim := { program := "ytocoegekdamlbaa", sum := "e735351135dcd731bb60c874292c714e1f9ad5022912694f7b9633cb9d60e895", func := "loop.example/finiterings/laws.FnExactNilpotentsOf", spec := "fnExactNilpotentsOf", unfollowed := true, recurses := true, apart := false, narrowed := true }
def FnExactNilpotentsOfUptoSaid : Prop := fnExactNilpotentsOfUptoRow.holds Try.pinned (OpenSpec.upto fnExactNilpotentsOfSpec)

/-- 'laws.FnExactIdempotentsOf', WHERE WHAT IT READS IS OF BULK AT MOST 1048576: true; the input reads as it did. -/
def fnExactIdempotentsOfUptoRow : OpenClaim := { program := "ytocoegekdamlbaa", sum := "e735351135dcd731bb60c874292c714e1f9ad5022912694f7b9633cb9d60e895", func := "loop.example/finiterings/laws.FnExactIdempotentsOf", spec := "fnExactIdempotentsOf", unfollowed := true, recurses := true, apart := false, narrowed := true }
def FnExactIdempotentsOfUptoSaid : Prop := fnExactIdempotentsOfUptoRow.holds Try.pinned (OpenSpec.upto fnExactIdempotentsOfSpec)

/-- 'laws.FnExactSumOrderOf', WHERE WHAT IT READS IS OF BULK AT MOST 1048576: true; the input reads as it did. -/
def fnExactSumOrderOfUptoRow : OpenClaim := { program := "ytocoegekdamlbaa", sum := "e735351135dcd731bb60c874292c714e1f9ad5022912694f7b9633cb9d60e895", func := "loop.example/finiterings/laws.FnExactSumOrderOf", spec := "fnExactSumOrderOf", apart := false, narrowed := true }
def FnExactSumOrderOfUptoSaid : Prop := fnExactSumOrderOfUptoRow.holds Try.pinned (OpenSpec.upto fnExactSumOrderOfSpec)

/-- 'laws.FnExactUnitOrderOf', WHERE WHAT IT READS IS OF BULK AT MOST 1048576: true; the input reads as it did. -/
def fnExactUnitOrderOfUptoRow : OpenClaim := { program := "ytocoegekdamlbaa", sum := "e735351135dcd731bb60c874292c714e1f9ad5022912694f7b9633cb9d60e895", func := "loop.example/finiterings/laws.FnExactUnitOrderOf", spec := "fnExactUnitOrderOf", apart := false, narrowed := true }
def FnExactUnitOrderOfUptoSaid : Prop := fnExactUnitOrderOfUptoRow.holds Try.pinned (OpenSpec.upto fnExactUnitOrderOfSpec)

/-- 'laws.FnExactAssociatesOf', WHERE WHAT IT READS IS OF BULK AT MOST 1048576: true; the input reads as it did. -/
def fnExactAssociatesOfUptoRow : OpenClaim := { program := "ytocoegekdamlbaa", sum := "e735351135dcd731bb60c874292c714e1f9ad5022912694f7b9633cb9d60e895", func := "loop.example/finiterings/laws.FnExactAssociatesOf", spec := "fnExactAssociatesOf", unfollowed := true, recurses := true, apart := false, narrowed := true }
def FnExactAssociatesOfUptoSaid : Prop := fnExactAssociatesOfUptoRow.holds Try.pinned (OpenSpec.upto fnExactAssociatesOfSpec)

/-- 'laws.FnExactIsField', WHERE WHAT IT READS IS OF BULK AT MOST 1048576: true; the input reads as it did. -/
def fnExactIsFieldUptoRow : OpenClaim := { program := "ytocoegekdamlbaa", sum := "e735351135dcd731bb60c874292c714e1f9ad5022912694f7b9633cb9d60e895", func := "loop.example/finiterings/laws.FnExactIsField", spec := "fnExactIsField", unfollowed := true, recurses := true, apart := false, narrowed := true }
def FnExactIsFieldUptoSaid : Prop := fnExactIsFieldUptoRow.holds Try.pinned (OpenSpec.upto fnExactIsFieldSpec)

/-- 'laws.FnExactKindsOf', WHERE WHAT IT READS IS OF BULK AT MOST 1048576: true; the input reads as it did. -/
def fnExactKindsOfUptoRow : OpenClaim := { program := "ytocoegekdamlbaa", sum := "e735351135dcd731bb60c874292c714e1f9ad5022912694f7b9633cb9d60e895", func := "loop.example/finiterings/laws.FnExactKindsOf", spec := "fnExactKindsOf", unfollowed := true, recurses := true, apart := false, narrowed := true }
def FnExactKindsOfUptoSaid : Prop := fnExactKindsOfUptoRow.holds Try.pinned (OpenSpec.upto fnExactKindsOfSpec)

end Rows
end Go.Proofs.Ytocoegekdamlbaa
