/-
  No cell of these rows narrows 'for every input' (looked for: loops, veiled, ifaces, maps, wideKeys, modest, calm, conditions, laid).
  DERIVED. THE GIVEN ROWS OF THIS SEAT. 16 by the template 'for every input the law returns true; each argument reads behind the call as it read before'; 0 by the template 'total and deterministic' (their statements: YtplligjoegjngaaTotals.lean).
  GIVEN WITH THE SEED: the statements are not yours to turn. If you find one false, say at which input.
  Laid BY PROGRAM, IN A SANDBOX (cutbox-rows.mjs): the forced cells as the released guide's own fill.sh prints them over the translation fee95c764802b5e6… (all of the seat's roots in one cut). By AI agents, Wed Nov 11 2026. No macro, syntax, notation, axiom, sorry.
-/
import Derived.Test.YtplligjoegjngaaChecked
import GoSem.Claim
import GoSem.ClaimJoined
import GoSem.ClaimMapViews
import Derived.JoinedTies
import Derived.KernelRfl
namespace Go.Proofs.Ytplligjoegjngaa
/- THE CELL 'sum', in the pinned program and in every row, IS THE sha256 OF THE DUMP (.gsa) THAT YtplligjoegjngaaProg.lean LOADS. Nothing in Lean hashes anything: it is a label: what it is worth is what the hold of that sum in a sandbox is worth. -/
noncomputable def Try.pinned : Pinned := { name := "ytplligjoegjngaa", sum := "fee95c764802b5e61f58303c1719f071199400ff7adc18b24174f651a1c093a2", checked := Try.checked }
namespace Rows
def none {H : Type} : Left H := { results := [], args := [] }

/-- 'laws.FnExactIntegers': WHATEVER THE INPUT: true; the input reads as it did. -/
def fnExactIntegersSpec : ChangeSpec := { name := "fnExactIntegers", fn := fun _ => fun
  | [d] => { results := [.lit (.bool true)], args := [d] }
  | _ => none }
def fnExactIntegersRow : OpenClaim := { program := "ytplligjoegjngaa", sum := "fee95c764802b5e61f58303c1719f071199400ff7adc18b24174f651a1c093a2", func := "loop.example/finiterings/laws.FnExactIntegers", spec := "fnExactIntegers", unfollowed := true, recurses := true, apart := false }
def FnExactIntegersSaid : Prop := fnExactIntegersRow.holds Try.pinned (OpenSpec.ofChange fnExactIntegersSpec)

/-- ITS FALSE NEIGHBOUR: 'it returns false'. Refute it at one input. -/
def fnExactIntegersWrong : ChangeSpec := { name := "fnExactIntegers", fn := fun _ => fun
  | [d] => { results := [.lit (.bool false)], args := [d] }
  | _ => none }
def FnExactIntegersWrongFalsely : Prop := fnExactIntegersRow.holds Try.pinned (OpenSpec.ofChange fnExactIntegersWrong)

/-- 'laws.FnExactProductRing': WHATEVER THE INPUT: true; the input reads as it did. -/
def fnExactProductRingSpec : ChangeSpec := { name := "fnExactProductRing", fn := fun _ => fun
  | [d1, d2] => { results := [.lit (.bool true)], args := [d1, d2] }
  | _ => none }
def fnExactProductRingRow : OpenClaim := { program := "ytplligjoegjngaa", sum := "fee95c764802b5e61f58303c1719f071199400ff7adc18b24174f651a1c093a2", func := "loop.example/finiterings/laws.FnExactProductRing", spec := "fnExactProductRing", unfollowed := true, recurses := true, apart := false }
def FnExactProductRingSaid : Prop := fnExactProductRingRow.holds Try.pinned (OpenSpec.ofChange fnExactProductRingSpec)

/-- ITS FALSE NEIGHBOUR: 'it returns false'. Refute it at one input. -/
def fnExactProductRingWrong : ChangeSpec := { name := "fnExactProductRing", fn := fun _ => fun
  | [d1, d2] => { results := [.lit (.bool false)], args := [d1, d2] }
  | _ => none }
def FnExactProductRingWrongFalsely : Prop := fnExactProductRingRow.holds Try.pinned (OpenSpec.ofChange fnExactProductRingWrong)

/-- 'laws.FnExactTowerRing': WHATEVER THE INPUT: true; the input reads as it did. -/
def fnExactTowerRingSpec : ChangeSpec := { name := "fnExactTowerRing", fn := fun _ => fun
  | [d1, d2] => { results := [.lit (.bool true)], args := [d1, d2] }
  | _ => none }
def fnExactTowerRingRow : OpenClaim := { program := "ytplligjoegjngaa", sum := "fee95c764802b5e61f58303c1719f071199400ff7adc18b24174f651a1c093a2", func := "loop.example/finiterings/laws.FnExactTowerRing", spec := "fnExactTowerRing", unfollowed := true, recurses := true, apart := false }
def FnExactTowerRingSaid : Prop := fnExactTowerRingRow.holds Try.pinned (OpenSpec.ofChange fnExactTowerRingSpec)

/-- ITS FALSE NEIGHBOUR: 'it returns false'. Refute it at one input. -/
def fnExactTowerRingWrong : ChangeSpec := { name := "fnExactTowerRing", fn := fun _ => fun
  | [d1, d2] => { results := [.lit (.bool false)], args := [d1, d2] }
  | _ => none }
def FnExactTowerRingWrongFalsely : Prop := fnExactTowerRingRow.holds Try.pinned (OpenSpec.ofChange fnExactTowerRingWrong)

/-- 'laws.FnExactPartOf': WHATEVER THE INPUT: true; the input reads as it did. -/
def fnExactPartOfSpec : ChangeSpec := { name := "fnExactPartOf", fn := fun _ => fun
  | [d1, d2, d3, d4] => { results := [.lit (.bool true)], args := [d1, d2, d3, d4] }
  | _ => none }
def fnExactPartOfRow : OpenClaim := { program := "ytplligjoegjngaa", sum := "fee95c764802b5e61f58303c1719f071199400ff7adc18b24174f651a1c093a2", func := "loop.example/finiterings/laws.FnExactPartOf", spec := "fnExactPartOf", apart := false }
def FnExactPartOfSaid : Prop := fnExactPartOfRow.holds Try.pinned (OpenSpec.ofChange fnExactPartOfSpec)

/-- ITS FALSE NEIGHBOUR: 'it returns false'. Refute it at one input. -/
def fnExactPartOfWrong : ChangeSpec := { name := "fnExactPartOf", fn := fun _ => fun
  | [d1, d2, d3, d4] => { results := [.lit (.bool false)], args := [d1, d2, d3, d4] }
  | _ => none }
def FnExactPartOfWrongFalsely : Prop := fnExactPartOfRow.holds Try.pinned (OpenSpec.ofChange fnExactPartOfWrong)

/-- 'laws.FnExactPairOf': WHATEVER THE INPUT: true; the input reads as it did. -/
def fnExactPairOfSpec : ChangeSpec := { name := "fnExactPairOf", fn := fun _ => fun
  | [d1, d2, d3, d4] => { results := [.lit (.bool true)], args := [d1, d2, d3, d4] }
  | _ => none }
def fnExactPairOfRow : OpenClaim := { program := "ytplligjoegjngaa", sum := "fee95c764802b5e61f58303c1719f071199400ff7adc18b24174f651a1c093a2", func := "loop.example/finiterings/laws.FnExactPairOf", spec := "fnExactPairOf", apart := false }
def FnExactPairOfSaid : Prop := fnExactPairOfRow.holds Try.pinned (OpenSpec.ofChange fnExactPairOfSpec)

/-- ITS FALSE NEIGHBOUR: 'it returns false'. Refute it at one input. -/
def fnExactPairOfWrong : ChangeSpec := { name := "fnExactPairOf", fn := fun _ => fun
  | [d1, d2, d3, d4] => { results := [.lit (.bool false)], args := [d1, d2, d3, d4] }
  | _ => none }
def FnExactPairOfWrongFalsely : Prop := fnExactPairOfRow.holds Try.pinned (OpenSpec.ofChange fnExactPairOfWrong)

/-- 'laws.FnExactCoefficientsOf': WHATEVER THE INPUT: true; the input reads as it did. -/
def fnExactCoefficientsOfSpec : ChangeSpec := { name := "fnExactCoefficientsOf", fn := fun _ => fun
  | [d1, d2, d3] => { results := [.lit (.bool true)], args := [d1, d2, d3] }
  | _ => none }
def fnExactCoefficientsOfRow : OpenClaim := { program := "ytplligjoegjngaa", sum := "fee95c764802b5e61f58303c1719f071199400ff7adc18b24174f651a1c093a2", func := "loop.example/finiterings/laws.FnExactCoefficientsOf", spec := "fnExactCoefficientsOf", apart := false }
def FnExactCoefficientsOfSaid : Prop := fnExactCoefficientsOfRow.holds Try.pinned (OpenSpec.ofChange fnExactCoefficientsOfSpec)

/-- ITS FALSE NEIGHBOUR: 'it returns false'. Refute it at one input. -/
def fnExactCoefficientsOfWrong : ChangeSpec := { name := "fnExactCoefficientsOf", fn := fun _ => fun
  | [d1, d2, d3] => { results := [.lit (.bool false)], args := [d1, d2, d3] }
  | _ => none }
def FnExactCoefficientsOfWrongFalsely : Prop := fnExactCoefficientsOfRow.holds Try.pinned (OpenSpec.ofChange fnExactCoefficientsOfWrong)

/-- 'laws.FnExactRenameRing': WHATEVER THE INPUT: true; the input reads as it did. -/
def fnExactRenameRingSpec : ChangeSpec := { name := "fnExactRenameRing", fn := fun _ => fun
  | [d1, d2] => { results := [.lit (.bool true)], args := [d1, d2] }
  | _ => none }
def fnExactRenameRingRow : OpenClaim := { program := "ytplligjoegjngaa", sum := "fee95c764802b5e61f58303c1719f071199400ff7adc18b24174f651a1c093a2", func := "loop.example/finiterings/laws.FnExactRenameRing", spec := "fnExactRenameRing", unfollowed := true, recurses := true, apart := false }
def FnExactRenameRingSaid : Prop := fnExactRenameRingRow.holds Try.pinned (OpenSpec.ofChange fnExactRenameRingSpec)

/-- ITS FALSE NEIGHBOUR: 'it returns false'. Refute it at one input. -/
def fnExactRenameRingWrong : ChangeSpec := { name := "fnExactRenameRing", fn := fun _ => fun
  | [d1, d2] => { results := [.lit (.bool false)], args := [d1, d2] }
  | _ => none }
def FnExactRenameRingWrongFalsely : Prop := fnExactRenameRingRow.holds Try.pinned (OpenSpec.ofChange fnExactRenameRingWrong)

/-- 'laws.FnExactMakeRing': WHATEVER THE INPUT: true; the input reads as it did. -/
def fnExactMakeRingSpec : ChangeSpec := { name := "fnExactMakeRing", fn := fun _ => fun
  | [d] => { results := [.lit (.bool true)], args := [d] }
  | _ => none }
def fnExactMakeRingRow : OpenClaim := { program := "ytplligjoegjngaa", sum := "fee95c764802b5e61f58303c1719f071199400ff7adc18b24174f651a1c093a2", func := "loop.example/finiterings/laws.FnExactMakeRing", spec := "fnExactMakeRing", unfollowed := true, recurses := true, apart := false }
def FnExactMakeRingSaid : Prop := fnExactMakeRingRow.holds Try.pinned (OpenSpec.ofChange fnExactMakeRingSpec)

/-- ITS FALSE NEIGHBOUR: 'it returns false'. Refute it at one input. -/
def fnExactMakeRingWrong : ChangeSpec := { name := "fnExactMakeRing", fn := fun _ => fun
  | [d] => { results := [.lit (.bool false)], args := [d] }
  | _ => none }
def FnExactMakeRingWrongFalsely : Prop := fnExactMakeRingRow.holds Try.pinned (OpenSpec.ofChange fnExactMakeRingWrong)

/-- 'laws.FnExactParseRing': WHATEVER THE INPUT: true; the input reads as it did. -/
def fnExactParseRingSpec : ChangeSpec := { name := "fnExactParseRing", fn := fun _ => fun
  | [d] => { results := [.lit (.bool true)], args := [d] }
  | _ => none }
def fnExactParseRingRow : OpenClaim := { program := "ytplligjoegjngaa", sum := "fee95c764802b5e61f58303c1719f071199400ff7adc18b24174f651a1c093a2", func := "loop.example/finiterings/laws.FnExactParseRing", spec := "fnExactParseRing", inPlace := ["internal/bytealg.IndexByteString"], apart := false }
def FnExactParseRingSaid : Prop := fnExactParseRingRow.holds Try.pinned (OpenSpec.ofChange fnExactParseRingSpec)

/-- ITS FALSE NEIGHBOUR: 'it returns false'. Refute it at one input. -/
def fnExactParseRingWrong : ChangeSpec := { name := "fnExactParseRing", fn := fun _ => fun
  | [d] => { results := [.lit (.bool false)], args := [d] }
  | _ => none }
def FnExactParseRingWrongFalsely : Prop := fnExactParseRingRow.holds Try.pinned (OpenSpec.ofChange fnExactParseRingWrong)

/-- 'laws.FnRingValid': WHATEVER THE INPUT: true; the input reads as it did. -/
def fnRingValidSpec : ChangeSpec := { name := "fnRingValid", fn := fun _ => fun
  | [d] => { results := [.lit (.bool true)], args := [d] }
  | _ => none }
def fnRingValidRow : OpenClaim := { program := "ytplligjoegjngaa", sum := "fee95c764802b5e61f58303c1719f071199400ff7adc18b24174f651a1c093a2", func := "loop.example/finiterings/laws.FnRingValid", spec := "fnRingValid", apart := false }
def FnRingValidSaid : Prop := fnRingValidRow.holds Try.pinned (OpenSpec.ofChange fnRingValidSpec)

/-- ITS FALSE NEIGHBOUR: 'it returns false'. Refute it at one input. -/
def fnRingValidWrong : ChangeSpec := { name := "fnRingValid", fn := fun _ => fun
  | [d] => { results := [.lit (.bool false)], args := [d] }
  | _ => none }
def FnRingValidWrongFalsely : Prop := fnRingValidRow.holds Try.pinned (OpenSpec.ofChange fnRingValidWrong)

/-- 'laws.FnArithmetic': WHATEVER THE INPUT: true; the input reads as it did. -/
def fnArithmeticSpec : ChangeSpec := { name := "fnArithmetic", fn := fun _ => fun
  | [d] => { results := [.lit (.bool true)], args := [d] }
  | _ => none }
def fnArithmeticRow : OpenClaim := { program := "ytplligjoegjngaa", sum := "fee95c764802b5e61f58303c1719f071199400ff7adc18b24174f651a1c093a2", func := "loop.example/finiterings/laws.FnArithmetic", spec := "fnArithmetic", apart := false }
def FnArithmeticSaid : Prop := fnArithmeticRow.holds Try.pinned (OpenSpec.ofChange fnArithmeticSpec)

/-- ITS FALSE NEIGHBOUR: 'it returns false'. Refute it at one input. -/
def fnArithmeticWrong : ChangeSpec := { name := "fnArithmetic", fn := fun _ => fun
  | [d] => { results := [.lit (.bool false)], args := [d] }
  | _ => none }
def FnArithmeticWrongFalsely : Prop := fnArithmeticRow.holds Try.pinned (OpenSpec.ofChange fnArithmeticWrong)

/-- 'laws.FnTimes': WHATEVER THE INPUT: true; the input reads as it did. -/
def fnTimesSpec : ChangeSpec := { name := "fnTimes", fn := fun _ => fun
  | [d1, d2] => { results := [.lit (.bool true)], args := [d1, d2] }
  | _ => none }
def fnTimesRow : OpenClaim := { program := "ytplligjoegjngaa", sum := "fee95c764802b5e61f58303c1719f071199400ff7adc18b24174f651a1c093a2", func := "loop.example/finiterings/laws.FnTimes", spec := "fnTimes", apart := false }
def FnTimesSaid : Prop := fnTimesRow.holds Try.pinned (OpenSpec.ofChange fnTimesSpec)

/-- ITS FALSE NEIGHBOUR: 'it returns false'. Refute it at one input. -/
def fnTimesWrong : ChangeSpec := { name := "fnTimes", fn := fun _ => fun
  | [d1, d2] => { results := [.lit (.bool false)], args := [d1, d2] }
  | _ => none }
def FnTimesWrongFalsely : Prop := fnTimesRow.holds Try.pinned (OpenSpec.ofChange fnTimesWrong)

/-- 'laws.FnPower': WHATEVER THE INPUT: true; the input reads as it did. -/
def fnPowerSpec : ChangeSpec := { name := "fnPower", fn := fun _ => fun
  | [d1, d2] => { results := [.lit (.bool true)], args := [d1, d2] }
  | _ => none }
def fnPowerRow : OpenClaim := { program := "ytplligjoegjngaa", sum := "fee95c764802b5e61f58303c1719f071199400ff7adc18b24174f651a1c093a2", func := "loop.example/finiterings/laws.FnPower", spec := "fnPower", apart := false }
def FnPowerSaid : Prop := fnPowerRow.holds Try.pinned (OpenSpec.ofChange fnPowerSpec)

/-- ITS FALSE NEIGHBOUR: 'it returns false'. Refute it at one input. -/
def fnPowerWrong : ChangeSpec := { name := "fnPower", fn := fun _ => fun
  | [d1, d2] => { results := [.lit (.bool false)], args := [d1, d2] }
  | _ => none }
def FnPowerWrongFalsely : Prop := fnPowerRow.holds Try.pinned (OpenSpec.ofChange fnPowerWrong)

/-- 'laws.FnRingText': WHATEVER THE INPUT: true; the input reads as it did. -/
def fnRingTextSpec : ChangeSpec := { name := "fnRingText", fn := fun _ => fun
  | [d1, d2] => { results := [.lit (.bool true)], args := [d1, d2] }
  | _ => none }
def fnRingTextRow : OpenClaim := { program := "ytplligjoegjngaa", sum := "fee95c764802b5e61f58303c1719f071199400ff7adc18b24174f651a1c093a2", func := "loop.example/finiterings/laws.FnRingText", spec := "fnRingText", inPlace := ["internal/bytealg.IndexByteString"], apart := false }
def FnRingTextSaid : Prop := fnRingTextRow.holds Try.pinned (OpenSpec.ofChange fnRingTextSpec)

/-- ITS FALSE NEIGHBOUR: 'it returns false'. Refute it at one input. -/
def fnRingTextWrong : ChangeSpec := { name := "fnRingText", fn := fun _ => fun
  | [d1, d2] => { results := [.lit (.bool false)], args := [d1, d2] }
  | _ => none }
def FnRingTextWrongFalsely : Prop := fnRingTextRow.holds Try.pinned (OpenSpec.ofChange fnRingTextWrong)

/-- 'laws.FnIntegers': WHATEVER THE INPUT: true; the input reads as it did. -/
def fnIntegersSpec : ChangeSpec := { name := "fnIntegers", fn := fun _ => fun
  | [d] => { results := [.lit (.bool true)], args := [d] }
  | _ => none }
def fnIntegersRow : OpenClaim := { program := "ytplligjoegjngaa", sum := "fee95c764802b5e61f58303c1719f071199400ff7adc18b24174f651a1c093a2", func := "loop.example/finiterings/laws.FnIntegers", spec := "fnIntegers", unfollowed := true, recurses := true, apart := false }
def FnIntegersSaid : Prop := fnIntegersRow.holds Try.pinned (OpenSpec.ofChange fnIntegersSpec)

/-- ITS FALSE NEIGHBOUR: 'it returns false'. Refute it at one input. -/
def fnIntegersWrong : ChangeSpec := { name := "fnIntegers", fn := fun _ => fun
  | [d] => { results := [.lit (.bool false)], args := [d] }
  | _ => none }
def FnIntegersWrongFalsely : Prop := fnIntegersRow.holds Try.pinned (OpenSpec.ofChange fnIntegersWrong)

/-- 'laws.FnMake': WHATEVER THE INPUT: true; the input reads as it did. -/
def fnMakeSpec : ChangeSpec := { name := "fnMake", fn := fun _ => fun
  | [d1, d2] => { results := [.lit (.bool true)], args := [d1, d2] }
  | _ => none }
def fnMakeRow : OpenClaim := { program := "ytplligjoegjngaa", sum := "fee95c764802b5e61f58303c1719f071199400ff7adc18b24174f651a1c093a2", func := "loop.example/finiterings/laws.FnMake", spec := "fnMake", unfollowed := true, recurses := true, apart := false }
def FnMakeSaid : Prop := fnMakeRow.holds Try.pinned (OpenSpec.ofChange fnMakeSpec)

/-- ITS FALSE NEIGHBOUR: 'it returns false'. Refute it at one input. -/
def fnMakeWrong : ChangeSpec := { name := "fnMake", fn := fun _ => fun
  | [d1, d2] => { results := [.lit (.bool false)], args := [d1, d2] }
  | _ => none }
def FnMakeWrongFalsely : Prop := fnMakeRow.holds Try.pinned (OpenSpec.ofChange fnMakeWrong)

/- THE SECOND FORM. 'bulk': how many values and letters a reading holds, each counted each time it is reached (what is shared counts as often as it is met; a slice's spare places count too). A statement '..UptoSaid' is the law's where the arguments, and the package variables that the reading takes, are together of bulk at most 1048576: NARROWER than '..Said'. Prove '..Said' where nothing that the law and all that it calls make is longer than what came in: it says more and counts as full. Else prove '..UptoSaid'. A law counts once. -/
mutual
def uptoBulk {H : Type} : DataW H → Nat
  | .lit (.string bytes) => bytes.length + 1
  | .lit _ => 1
  | .nil => 1
  | .ptr d => uptoBulk d + 1
  | .slice elems spare => uptoBulkAll elems + uptoBulkAll spare + 1
  | .agg parts => uptoBulkAll parts + 1
  | .iface _ d => uptoBulk d + 1
  | .map entries => uptoBulkEntries entries + 1
  | .held _ => 1
def uptoBulkAll {H : Type} : List (DataW H) → Nat
  | [] => 0
  | d :: r => uptoBulk d + uptoBulkAll r
def uptoBulkEntries {H : Type} : List (Lit × DataW H) → Nat
  | [] => 0
  | x :: r => uptoBulkEntry x + uptoBulkEntries r
def uptoBulkEntry {H : Type} : Lit × DataW H → Nat
  | (.string bytes, d) => bytes.length + uptoBulk d + 1
  | (_, d) => uptoBulk d + 1
 end
def uptoSmall : (H : Type) → List (DataW H) → Bool := fun _ ds => decide (uptoBulkAll ds ≤ 1048576)
def OpenSpec.upto (s : _root_.Go.ChangeSpec) : _root_.Go.OpenSpec := { _root_.Go.OpenSpec.ofChange s with cond := some uptoSmall }

/-- 'laws.FnExactIntegers', WHERE WHAT IT READS IS OF BULK AT MOST 1048576: true; the input reads as it did. -/
def fnExactIntegersUptoRow : OpenClaim := { program := "ytplligjoegjngaa", sum := "fee95c764802b5e61f58303c1719f071199400ff7adc18b24174f651a1c093a2", func := "loop.example/finiterings/laws.FnExactIntegers", spec := "fnExactIntegers", unfollowed := true, recurses := true, apart := false, narrowed := true }
def FnExactIntegersUptoSaid : Prop := fnExactIntegersUptoRow.holds Try.pinned (OpenSpec.upto fnExactIntegersSpec)

/-- 'laws.FnExactProductRing', WHERE WHAT IT READS IS OF BULK AT MOST 1048576: true; the input reads as it did. -/
def fnExactProductRingUptoRow : OpenClaim := { program := "ytplligjoegjngaa", sum := "fee95c764802b5e61f58303c1719f071199400ff7adc18b24174f651a1c093a2", func := "loop.example/finiterings/laws.FnExactProductRing", spec := "fnExactProductRing", unfollowed := true, recurses := true, apart := false, narrowed := true }
def FnExactProductRingUptoSaid : Prop := fnExactProductRingUptoRow.holds Try.pinned (OpenSpec.upto fnExactProductRingSpec)

/-- 'laws.FnExactTowerRing', WHERE WHAT IT READS IS OF BULK AT MOST 1048576: true; the input reads as it did. -/
def fnExactTowerRingUptoRow : OpenClaim := { program := "ytplligjoegjngaa", sum := "fee95c764802b5e61f58303c1719f071199400ff7adc18b24174f651a1c093a2", func := "loop.example/finiterings/laws.FnExactTowerRing", spec := "fnExactTowerRing", unfollowed := true, recurses := true, apart := false, narrowed := true }
def FnExactTowerRingUptoSaid : Prop := fnExactTowerRingUptoRow.holds Try.pinned (OpenSpec.upto fnExactTowerRingSpec)

/-- 'laws.FnExactPartOf', WHERE WHAT IT READS IS OF BULK AT MOST 1048576: true; the input reads as it did. -/
def fnExactPartOfUptoRow : OpenClaim := { program := "ytplligjoegjngaa", sum := "fee95c764802b5e61f58303c1719f071199400ff7adc18b24174f651a1c093a2", func := "loop.example/finiterings/laws.FnExactPartOf", spec := "fnExactPartOf", apart := false, narrowed := true }
def FnExactPartOfUptoSaid : Prop := fnExactPartOfUptoRow.holds Try.pinned (OpenSpec.upto fnExactPartOfSpec)

/-- 'laws.FnExactPairOf', WHERE WHAT IT READS IS OF BULK AT MOST 1048576: true; the input reads as it did. -/
def fnExactPairOfUptoRow : OpenClaim := { program := "ytplligjoegjngaa", sum := "fee95c764802b5e61f58303c1719f071199400ff7adc18b24174f651a1c093a2", func := "loop.example/finiterings/laws.FnExactPairOf", spec := "fnExactPairOf", apart := false, narrowed := true }
def FnExactPairOfUptoSaid : Prop := fnExactPairOfUptoRow.holds Try.pinned (OpenSpec.upto fnExactPairOfSpec)

/-- 'laws.FnExactCoefficientsOf', WHERE WHAT IT READS IS OF BULK AT MOST 1048576: true; the input reads as it did. -/
def fnExactCoefficientsOfUptoRow : OpenClaim := { program := "ytplligjoegjngaa", sum := "fee95c764802b5e61f58303c1719f071199400ff7adc18b24174f651a1c093a2", func := "loop.example/finiterings/laws.FnExactCoefficientsOf", spec := "fnExactCoefficientsOf", apart := false, narrowed := true }
def FnExactCoefficientsOfUptoSaid : Prop := fnExactCoefficientsOfUptoRow.holds Try.pinned (OpenSpec.upto fnExactCoefficientsOfSpec)

/-- 'laws.FnExactRenameRing', WHERE WHAT IT READS IS OF BULK AT MOST 1048576: true; the input reads as it did. -/
def fnExactRenameRingUptoRow : OpenClaim := { program := "ytplligjoegjngaa", sum := "fee95c764802b5e61f58303c1719f071199400ff7adc18b24174f651a1c093a2", func := "loop.example/finiterings/laws.FnExactRenameRing", spec := "fnExactRenameRing", unfollowed := true, recurses := true, apart := false, narrowed := true }
def FnExactRenameRingUptoSaid : Prop := fnExactRenameRingUptoRow.holds Try.pinned (OpenSpec.upto fnExactRenameRingSpec)

/-- 'laws.FnExactMakeRing', WHERE WHAT IT READS IS OF BULK AT MOST 1048576: true; the input reads as it did. -/
def fnExactMakeRingUptoRow : OpenClaim := { program := "ytplligjoegjngaa", sum := "fee95c764802b5e61f58303c1719f071199400ff7adc18b24174f651a1c093a2", func := "loop.example/finiterings/laws.FnExactMakeRing", spec := "fnExactMakeRing", unfollowed := true, recurses := true, apart := false, narrowed := true }
def FnExactMakeRingUptoSaid : Prop := fnExactMakeRingUptoRow.holds Try.pinned (OpenSpec.upto fnExactMakeRingSpec)

/-- 'laws.FnExactParseRing', WHERE WHAT IT READS IS OF BULK AT MOST 1048576: true; the input reads as it did. -/
def fnExactParseRingUptoRow : OpenClaim := { program := "ytplligjoegjngaa", sum := "fee95c764802b5e61f58303c1719f071199400ff7adc18b24174f651a1c093a2", func := "loop.example/finiterings/laws.FnExactParseRing", spec := "fnExactParseRing", inPlace := ["internal/bytealg.IndexByteString"], apart := false, narrowed := true }
def FnExactParseRingUptoSaid : Prop := fnExactParseRingUptoRow.holds Try.pinned (OpenSpec.upto fnExactParseRingSpec)

/-- 'laws.FnRingValid', WHERE WHAT IT READS IS OF BULK AT MOST 1048576: true; the input reads as it did. -/
def fnRingValidUptoRow : OpenClaim := { program := "ytplligjoegjngaa", sum := "fee95c764802b5e61f58303c1719f071199400ff7adc18b24174f651a1c093a2", func := "loop.example/finiterings/laws.FnRingValid", spec := "fnRingValid", apart := false, narrowed := true }
def FnRingValidUptoSaid : Prop := fnRingValidUptoRow.holds Try.pinned (OpenSpec.upto fnRingValidSpec)

/-- 'laws.FnArithmetic', WHERE WHAT IT READS IS OF BULK AT MOST 1048576: true; the input reads as it did. -/
def fnArithmeticUptoRow : OpenClaim := { program := "ytplligjoegjngaa", sum := "fee95c764802b5e61f58303c1719f071199400ff7adc18b24174f651a1c093a2", func := "loop.example/finiterings/laws.FnArithmetic", spec := "fnArithmetic", apart := false, narrowed := true }
def FnArithmeticUptoSaid : Prop := fnArithmeticUptoRow.holds Try.pinned (OpenSpec.upto fnArithmeticSpec)

/-- 'laws.FnTimes', WHERE WHAT IT READS IS OF BULK AT MOST 1048576: true; the input reads as it did. -/
def fnTimesUptoRow : OpenClaim := { program := "ytplligjoegjngaa", sum := "fee95c764802b5e61f58303c1719f071199400ff7adc18b24174f651a1c093a2", func := "loop.example/finiterings/laws.FnTimes", spec := "fnTimes", apart := false, narrowed := true }
def FnTimesUptoSaid : Prop := fnTimesUptoRow.holds Try.pinned (OpenSpec.upto fnTimesSpec)

/-- 'laws.FnPower', WHERE WHAT IT READS IS OF BULK AT MOST 1048576: true; the input reads as it did. -/
def fnPowerUptoRow : OpenClaim := { program := "ytplligjoegjngaa", sum := "fee95c764802b5e61f58303c1719f071199400ff7adc18b24174f651a1c093a2", func := "loop.example/finiterings/laws.FnPower", spec := "fnPower", apart := false, narrowed := true }
def FnPowerUptoSaid : Prop := fnPowerUptoRow.holds Try.pinned (OpenSpec.upto fnPowerSpec)

/-- 'laws.FnRingText', WHERE WHAT IT READS IS OF BULK AT MOST 1048576: true; the input reads as it did. -/
def fnRingTextUptoRow : OpenClaim := { program := "ytplligjoegjngaa", sum := "fee95c764802b5e61f58303c1719f071199400ff7adc18b24174f651a1c093a2", func := "loop.example/finiterings/laws.FnRingText", spec := "fnRingText", inPlace := ["internal/bytealg.IndexByteString"], apart := false, narrowed := true }
def FnRingTextUptoSaid : Prop := fnRingTextUptoRow.holds Try.pinned (OpenSpec.upto fnRingTextSpec)

/-- 'laws.FnIntegers', WHERE WHAT IT READS IS OF BULK AT MOST 1048576: true; the input reads as it did. -/
def fnIntegersUptoRow : OpenClaim := { program := "ytplligjoegjngaa", sum := "fee95c764802b5e61f58303c1719f071199400ff7adc18b24174f651a1c093a2", func := "loop.example/finiterings/laws.FnIntegers", spec := "fnIntegers", unfollowed := true, recurses := true, apart := false, narrowed := true }
def FnIntegersUptoSaid : Prop := fnIntegersUptoRow.holds Try.pinned (OpenSpec.upto fnIntegersSpec)

/-- 'laws.FnMake', WHERE WHAT IT READS IS OF BULK AT MOST 1048576: true; the input reads as it did. -/
def fnMakeUptoRow : OpenClaim := { program := "ytplligjoegjngaa", sum := "fee95c764802b5e61f58303c1719f071199400ff7adc18b24174f651a1c093a2", func := "loop.example/finiterings/laws.FnMake", spec := "fnMake", unfollowed := true, recurses := true, apart := false, narrowed := true }
def FnMakeUptoSaid : Prop := fnMakeUptoRow.holds Try.pinned (OpenSpec.upto fnMakeSpec)

end Rows
end Go.Proofs.Ytplligjoegjngaa
