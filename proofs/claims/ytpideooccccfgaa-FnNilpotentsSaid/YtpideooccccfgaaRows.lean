/-
  No cell of these rows narrows 'for every input' (looked for: loops, veiled, ifaces, maps, wideKeys, modest, calm, conditions, laid).
  DERIVED. THE GIVEN ROWS OF THIS SEAT. 16 by the template 'for every input the law returns true; each argument reads behind the call as it read before'; 0 by the template 'total and deterministic' (their statements: YtpideooccccfgaaTotals.lean).
  GIVEN WITH THE SEED: the statements are not yours to turn. If you find one false, say at which input.
  Laid BY PROGRAM, IN A SANDBOX (cutbox-rows.mjs): the forced cells as the released guide's own fill.sh prints them over the translation c4fe1814e2d7b434… (all of the seat's roots in one cut). By AI agents, Wed Nov 11 2026. No macro, syntax, notation, axiom, sorry.
-/
import Derived.Test.YtpideooccccfgaaChecked
import GoSem.Claim
import GoSem.ClaimJoined
import GoSem.ClaimMapViews
import Derived.JoinedTies
import Derived.KernelRfl
namespace Go.Proofs.Ytpideooccccfgaa
/- THE CELL 'sum', in the pinned program and in every row, IS THE sha256 OF THE DUMP (.gsa) THAT YtpideooccccfgaaProg.lean LOADS. Nothing in Lean hashes anything: it is a label: what it is worth is what the hold of that sum in a sandbox is worth. -/
noncomputable def Try.pinned : Pinned := { name := "ytpideooccccfgaa", sum := "c4fe1814e2d7b434f3fbac15b61fc98e992582382f938dc909dc49ae13a3cf7d", checked := Try.checked }
namespace Rows
def none {H : Type} : Left H := { results := [], args := [] }

/-- 'laws.FnRingText': WHATEVER THE INPUT: true; the input reads as it did. -/
def fnRingTextSpec : ChangeSpec := { name := "fnRingText", fn := fun _ => fun
  | [d1, d2] => { results := [.lit (.bool true)], args := [d1, d2] }
  | _ => none }
def fnRingTextRow : OpenClaim := { program := "ytpideooccccfgaa", sum := "c4fe1814e2d7b434f3fbac15b61fc98e992582382f938dc909dc49ae13a3cf7d", func := "loop.example/finiterings/laws.FnRingText", spec := "fnRingText", inPlace := ["internal/bytealg.IndexByteString"], apart := false }
def FnRingTextSaid : Prop := fnRingTextRow.holds Try.pinned (OpenSpec.ofChange fnRingTextSpec)

/-- ITS FALSE NEIGHBOUR: 'it returns false'. Refute it at one input. -/
def fnRingTextWrong : ChangeSpec := { name := "fnRingText", fn := fun _ => fun
  | [d1, d2] => { results := [.lit (.bool false)], args := [d1, d2] }
  | _ => none }
def FnRingTextWrongFalsely : Prop := fnRingTextRow.holds Try.pinned (OpenSpec.ofChange fnRingTextWrong)

/-- 'laws.FnIntegers': WHATEVER THE INPUT: true; the input reads as it did. -/
def fnIntegersSpec : ChangeSpec := { name := "fnIntegers", fn := fun _ => fun
  | [d] => { results := [.lit (.bool true)], args := [d] }
  | _ => none }
def fnIntegersRow : OpenClaim := { program := "ytpideooccccfgaa", sum := "c4fe1814e2d7b434f3fbac15b61fc98e992582382f938dc909dc49ae13a3cf7d", func := "loop.example/finiterings/laws.FnIntegers", spec := "fnIntegers", unfollowed := true, recurses := true, apart := false }
def FnIntegersSaid : Prop := fnIntegersRow.holds Try.pinned (OpenSpec.ofChange fnIntegersSpec)

/-- ITS FALSE NEIGHBOUR: 'it returns false'. Refute it at one input. -/
def fnIntegersWrong : ChangeSpec := { name := "fnIntegers", fn := fun _ => fun
  | [d] => { results := [.lit (.bool false)], args := [d] }
  | _ => none }
def FnIntegersWrongFalsely : Prop := fnIntegersRow.holds Try.pinned (OpenSpec.ofChange fnIntegersWrong)

/-- 'laws.FnProduct': WHATEVER THE INPUT: true; the input reads as it did. -/
def fnProductSpec : ChangeSpec := { name := "fnProduct", fn := fun _ => fun
  | [d] => { results := [.lit (.bool true)], args := [d] }
  | _ => none }
def fnProductRow : OpenClaim := { program := "ytpideooccccfgaa", sum := "c4fe1814e2d7b434f3fbac15b61fc98e992582382f938dc909dc49ae13a3cf7d", func := "loop.example/finiterings/laws.FnProduct", spec := "fnProduct", unfollowed := true, recurses := true, apart := false }
def FnProductSaid : Prop := fnProductRow.holds Try.pinned (OpenSpec.ofChange fnProductSpec)

/-- ITS FALSE NEIGHBOUR: 'it returns false'. Refute it at one input. -/
def fnProductWrong : ChangeSpec := { name := "fnProduct", fn := fun _ => fun
  | [d] => { results := [.lit (.bool false)], args := [d] }
  | _ => none }
def FnProductWrongFalsely : Prop := fnProductRow.holds Try.pinned (OpenSpec.ofChange fnProductWrong)

/-- 'laws.FnParts': WHATEVER THE INPUT: true; the input reads as it did. -/
def fnPartsSpec : ChangeSpec := { name := "fnParts", fn := fun _ => fun
  | [d1, d2] => { results := [.lit (.bool true)], args := [d1, d2] }
  | _ => none }
def fnPartsRow : OpenClaim := { program := "ytpideooccccfgaa", sum := "c4fe1814e2d7b434f3fbac15b61fc98e992582382f938dc909dc49ae13a3cf7d", func := "loop.example/finiterings/laws.FnParts", spec := "fnParts", apart := false }
def FnPartsSaid : Prop := fnPartsRow.holds Try.pinned (OpenSpec.ofChange fnPartsSpec)

/-- ITS FALSE NEIGHBOUR: 'it returns false'. Refute it at one input. -/
def fnPartsWrong : ChangeSpec := { name := "fnParts", fn := fun _ => fun
  | [d1, d2] => { results := [.lit (.bool false)], args := [d1, d2] }
  | _ => none }
def FnPartsWrongFalsely : Prop := fnPartsRow.holds Try.pinned (OpenSpec.ofChange fnPartsWrong)

/-- 'laws.FnTower': WHATEVER THE INPUT: true; the input reads as it did. -/
def fnTowerSpec : ChangeSpec := { name := "fnTower", fn := fun _ => fun
  | [d] => { results := [.lit (.bool true)], args := [d] }
  | _ => none }
def fnTowerRow : OpenClaim := { program := "ytpideooccccfgaa", sum := "c4fe1814e2d7b434f3fbac15b61fc98e992582382f938dc909dc49ae13a3cf7d", func := "loop.example/finiterings/laws.FnTower", spec := "fnTower", unfollowed := true, recurses := true, apart := false }
def FnTowerSaid : Prop := fnTowerRow.holds Try.pinned (OpenSpec.ofChange fnTowerSpec)

/-- ITS FALSE NEIGHBOUR: 'it returns false'. Refute it at one input. -/
def fnTowerWrong : ChangeSpec := { name := "fnTower", fn := fun _ => fun
  | [d] => { results := [.lit (.bool false)], args := [d] }
  | _ => none }
def FnTowerWrongFalsely : Prop := fnTowerRow.holds Try.pinned (OpenSpec.ofChange fnTowerWrong)

/-- 'laws.FnCoefficients': WHATEVER THE INPUT: true; the input reads as it did. -/
def fnCoefficientsSpec : ChangeSpec := { name := "fnCoefficients", fn := fun _ => fun
  | [d] => { results := [.lit (.bool true)], args := [d] }
  | _ => none }
def fnCoefficientsRow : OpenClaim := { program := "ytpideooccccfgaa", sum := "c4fe1814e2d7b434f3fbac15b61fc98e992582382f938dc909dc49ae13a3cf7d", func := "loop.example/finiterings/laws.FnCoefficients", spec := "fnCoefficients", unfollowed := true, recurses := true, apart := false }
def FnCoefficientsSaid : Prop := fnCoefficientsRow.holds Try.pinned (OpenSpec.ofChange fnCoefficientsSpec)

/-- ITS FALSE NEIGHBOUR: 'it returns false'. Refute it at one input. -/
def fnCoefficientsWrong : ChangeSpec := { name := "fnCoefficients", fn := fun _ => fun
  | [d] => { results := [.lit (.bool false)], args := [d] }
  | _ => none }
def FnCoefficientsWrongFalsely : Prop := fnCoefficientsRow.holds Try.pinned (OpenSpec.ofChange fnCoefficientsWrong)

/-- 'laws.FnRename': WHATEVER THE INPUT: true; the input reads as it did. -/
def fnRenameSpec : ChangeSpec := { name := "fnRename", fn := fun _ => fun
  | [d] => { results := [.lit (.bool true)], args := [d] }
  | _ => none }
def fnRenameRow : OpenClaim := { program := "ytpideooccccfgaa", sum := "c4fe1814e2d7b434f3fbac15b61fc98e992582382f938dc909dc49ae13a3cf7d", func := "loop.example/finiterings/laws.FnRename", spec := "fnRename", unfollowed := true, recurses := true, apart := false }
def FnRenameSaid : Prop := fnRenameRow.holds Try.pinned (OpenSpec.ofChange fnRenameSpec)

/-- ITS FALSE NEIGHBOUR: 'it returns false'. Refute it at one input. -/
def fnRenameWrong : ChangeSpec := { name := "fnRename", fn := fun _ => fun
  | [d] => { results := [.lit (.bool false)], args := [d] }
  | _ => none }
def FnRenameWrongFalsely : Prop := fnRenameRow.holds Try.pinned (OpenSpec.ofChange fnRenameWrong)

/-- 'laws.FnMake': WHATEVER THE INPUT: true; the input reads as it did. -/
def fnMakeSpec : ChangeSpec := { name := "fnMake", fn := fun _ => fun
  | [d1, d2] => { results := [.lit (.bool true)], args := [d1, d2] }
  | _ => none }
def fnMakeRow : OpenClaim := { program := "ytpideooccccfgaa", sum := "c4fe1814e2d7b434f3fbac15b61fc98e992582382f938dc909dc49ae13a3cf7d", func := "loop.example/finiterings/laws.FnMake", spec := "fnMake", unfollowed := true, recurses := true, apart := false }
def FnMakeSaid : Prop := fnMakeRow.holds Try.pinned (OpenSpec.ofChange fnMakeSpec)

/-- ITS FALSE NEIGHBOUR: 'it returns false'. Refute it at one input. -/
def fnMakeWrong : ChangeSpec := { name := "fnMake", fn := fun _ => fun
  | [d1, d2] => { results := [.lit (.bool false)], args := [d1, d2] }
  | _ => none }
def FnMakeWrongFalsely : Prop := fnMakeRow.holds Try.pinned (OpenSpec.ofChange fnMakeWrong)

/-- 'laws.FnUnits': WHATEVER THE INPUT: true; the input reads as it did. -/
def fnUnitsSpec : ChangeSpec := { name := "fnUnits", fn := fun _ => fun
  | [d] => { results := [.lit (.bool true)], args := [d] }
  | _ => none }
def fnUnitsRow : OpenClaim := { program := "ytpideooccccfgaa", sum := "c4fe1814e2d7b434f3fbac15b61fc98e992582382f938dc909dc49ae13a3cf7d", func := "loop.example/finiterings/laws.FnUnits", spec := "fnUnits", unfollowed := true, recurses := true, apart := false }
def FnUnitsSaid : Prop := fnUnitsRow.holds Try.pinned (OpenSpec.ofChange fnUnitsSpec)

/-- ITS FALSE NEIGHBOUR: 'it returns false'. Refute it at one input. -/
def fnUnitsWrong : ChangeSpec := { name := "fnUnits", fn := fun _ => fun
  | [d] => { results := [.lit (.bool false)], args := [d] }
  | _ => none }
def FnUnitsWrongFalsely : Prop := fnUnitsRow.holds Try.pinned (OpenSpec.ofChange fnUnitsWrong)

/-- 'laws.FnInverse': WHATEVER THE INPUT: true; the input reads as it did. -/
def fnInverseSpec : ChangeSpec := { name := "fnInverse", fn := fun _ => fun
  | [d] => { results := [.lit (.bool true)], args := [d] }
  | _ => none }
def fnInverseRow : OpenClaim := { program := "ytpideooccccfgaa", sum := "c4fe1814e2d7b434f3fbac15b61fc98e992582382f938dc909dc49ae13a3cf7d", func := "loop.example/finiterings/laws.FnInverse", spec := "fnInverse", unfollowed := true, recurses := true, apart := false }
def FnInverseSaid : Prop := fnInverseRow.holds Try.pinned (OpenSpec.ofChange fnInverseSpec)

/-- ITS FALSE NEIGHBOUR: 'it returns false'. Refute it at one input. -/
def fnInverseWrong : ChangeSpec := { name := "fnInverse", fn := fun _ => fun
  | [d] => { results := [.lit (.bool false)], args := [d] }
  | _ => none }
def FnInverseWrongFalsely : Prop := fnInverseRow.holds Try.pinned (OpenSpec.ofChange fnInverseWrong)

/-- 'laws.FnNilpotents': WHATEVER THE INPUT: true; the input reads as it did. -/
def fnNilpotentsSpec : ChangeSpec := { name := "fnNilpotents", fn := fun _ => fun
  | [d] => { results := [.lit (.bool true)], args := [d] }
  | _ => none }
def fnNilpotentsRow : OpenClaim := { program := "ytpideooccccfgaa", sum := "c4fe1814e2d7b434f3fbac15b61fc98e992582382f938dc909dc49ae13a3cf7d", func := "loop.example/finiterings/laws.FnNilpotents", spec := "fnNilpotents", unfollowed := true, recurses := true, apart := false }
def FnNilpotentsSaid : Prop := fnNilpotentsRow.holds Try.pinned (OpenSpec.ofChange fnNilpotentsSpec)

/-- ITS FALSE NEIGHBOUR: 'it returns false'. Refute it at one input. -/
def fnNilpotentsWrong : ChangeSpec := { name := "fnNilpotents", fn := fun _ => fun
  | [d] => { results := [.lit (.bool false)], args := [d] }
  | _ => none }
def FnNilpotentsWrongFalsely : Prop := fnNilpotentsRow.holds Try.pinned (OpenSpec.ofChange fnNilpotentsWrong)

/-- 'laws.FnIdempotents': WHATEVER THE INPUT: true; the input reads as it did. -/
def fnIdempotentsSpec : ChangeSpec := { name := "fnIdempotents", fn := fun _ => fun
  | [d] => { results := [.lit (.bool true)], args := [d] }
  | _ => none }
def fnIdempotentsRow : OpenClaim := { program := "ytpideooccccfgaa", sum := "c4fe1814e2d7b434f3fbac15b61fc98e992582382f938dc909dc49ae13a3cf7d", func := "loop.example/finiterings/laws.FnIdempotents", spec := "fnIdempotents", unfollowed := true, recurses := true, apart := false }
def FnIdempotentsSaid : Prop := fnIdempotentsRow.holds Try.pinned (OpenSpec.ofChange fnIdempotentsSpec)

/-- ITS FALSE NEIGHBOUR: 'it returns false'. Refute it at one input. -/
def fnIdempotentsWrong : ChangeSpec := { name := "fnIdempotents", fn := fun _ => fun
  | [d] => { results := [.lit (.bool false)], args := [d] }
  | _ => none }
def FnIdempotentsWrongFalsely : Prop := fnIdempotentsRow.holds Try.pinned (OpenSpec.ofChange fnIdempotentsWrong)

/-- 'laws.FnOrders': WHATEVER THE INPUT: true; the input reads as it did. -/
def fnOrdersSpec : ChangeSpec := { name := "fnOrders", fn := fun _ => fun
  | [d] => { results := [.lit (.bool true)], args := [d] }
  | _ => none }
def fnOrdersRow : OpenClaim := { program := "ytpideooccccfgaa", sum := "c4fe1814e2d7b434f3fbac15b61fc98e992582382f938dc909dc49ae13a3cf7d", func := "loop.example/finiterings/laws.FnOrders", spec := "fnOrders", unfollowed := true, recurses := true, apart := false }
def FnOrdersSaid : Prop := fnOrdersRow.holds Try.pinned (OpenSpec.ofChange fnOrdersSpec)

/-- ITS FALSE NEIGHBOUR: 'it returns false'. Refute it at one input. -/
def fnOrdersWrong : ChangeSpec := { name := "fnOrders", fn := fun _ => fun
  | [d] => { results := [.lit (.bool false)], args := [d] }
  | _ => none }
def FnOrdersWrongFalsely : Prop := fnOrdersRow.holds Try.pinned (OpenSpec.ofChange fnOrdersWrong)

/-- 'laws.FnAssociates': WHATEVER THE INPUT: true; the input reads as it did. -/
def fnAssociatesSpec : ChangeSpec := { name := "fnAssociates", fn := fun _ => fun
  | [d] => { results := [.lit (.bool true)], args := [d] }
  | _ => none }
def fnAssociatesRow : OpenClaim := { program := "ytpideooccccfgaa", sum := "c4fe1814e2d7b434f3fbac15b61fc98e992582382f938dc909dc49ae13a3cf7d", func := "loop.example/finiterings/laws.FnAssociates", spec := "fnAssociates", unfollowed := true, recurses := true, apart := false }
def FnAssociatesSaid : Prop := fnAssociatesRow.holds Try.pinned (OpenSpec.ofChange fnAssociatesSpec)

/-- ITS FALSE NEIGHBOUR: 'it returns false'. Refute it at one input. -/
def fnAssociatesWrong : ChangeSpec := { name := "fnAssociates", fn := fun _ => fun
  | [d] => { results := [.lit (.bool false)], args := [d] }
  | _ => none }
def FnAssociatesWrongFalsely : Prop := fnAssociatesRow.holds Try.pinned (OpenSpec.ofChange fnAssociatesWrong)

/-- 'laws.FnExactTowerRing': WHATEVER THE INPUT: true; the input reads as it did. -/
def fnExactTowerRingSpec : ChangeSpec := { name := "fnExactTowerRing", fn := fun _ => fun
  | [d1, d2] => { results := [.lit (.bool true)], args := [d1, d2] }
  | _ => none }
def fnExactTowerRingRow : OpenClaim := { program := "ytpideooccccfgaa", sum := "c4fe1814e2d7b434f3fbac15b61fc98e992582382f938dc909dc49ae13a3cf7d", func := "loop.example/finiterings/laws.FnExactTowerRing", spec := "fnExactTowerRing", unfollowed := true, recurses := true, apart := false }
def FnExactTowerRingSaid : Prop := fnExactTowerRingRow.holds Try.pinned (OpenSpec.ofChange fnExactTowerRingSpec)

/-- ITS FALSE NEIGHBOUR: 'it returns false'. Refute it at one input. -/
def fnExactTowerRingWrong : ChangeSpec := { name := "fnExactTowerRing", fn := fun _ => fun
  | [d1, d2] => { results := [.lit (.bool false)], args := [d1, d2] }
  | _ => none }
def FnExactTowerRingWrongFalsely : Prop := fnExactTowerRingRow.holds Try.pinned (OpenSpec.ofChange fnExactTowerRingWrong)

/-- 'laws.FnExactMakeRing': WHATEVER THE INPUT: true; the input reads as it did. -/
def fnExactMakeRingSpec : ChangeSpec := { name := "fnExactMakeRing", fn := fun _ => fun
  | [d] => { results := [.lit (.bool true)], args := [d] }
  | _ => none }
def fnExactMakeRingRow : OpenClaim := { program := "ytpideooccccfgaa", sum := "c4fe1814e2d7b434f3fbac15b61fc98e992582382f938dc909dc49ae13a3cf7d", func := "loop.example/finiterings/laws.FnExactMakeRing", spec := "fnExactMakeRing", unfollowed := true, recurses := true, apart := false }
def FnExactMakeRingSaid : Prop := fnExactMakeRingRow.holds Try.pinned (OpenSpec.ofChange fnExactMakeRingSpec)

/-- ITS FALSE NEIGHBOUR: 'it returns false'. Refute it at one input. -/
def fnExactMakeRingWrong : ChangeSpec := { name := "fnExactMakeRing", fn := fun _ => fun
  | [d] => { results := [.lit (.bool false)], args := [d] }
  | _ => none }
def FnExactMakeRingWrongFalsely : Prop := fnExactMakeRingRow.holds Try.pinned (OpenSpec.ofChange fnExactMakeRingWrong)

/- THE SECOND FORM. 'bulk': how many values and letters a reading holds, each counted each time it is reached (what is shared counts as often as it is met; a slice's spare places count too). A statement '..UptoSaid' is the law's where the arguments, and the package variables that the reading takes, are together of bulk at most 1048576: NARROWER than '..Said'. Prove '..Said' where nothing that the law and all that it calls make is longer than what came in: it says more and counts as full. Else prove '..UptoSaid'. A law counts once. -/
mutual
def uptoBulk {H : Type} : DataW H → Nat
  | .lit (.string bytes) => bytes.length + 1
  | .lit _ => 1
  | .nil => 1
  | .ptr d => uptoBulk d + 1
  | .slice elems spare => uptoBulkAll elems + uptoBulkAll spare + 1
  | .agg parts => uptoBulkAll parts + 1
  | .iface _ d => uptoBulk d + 1
  | .map entries => uptoBulkEntries entries + 1
  | .held _ => 1
def uptoBulkAll {H : Type} : List (DataW H) → Nat
  | [] => 0
  | d :: r => uptoBulk d + uptoBulkAll r
def uptoBulkEntries {H : Type} : List (Lit × DataW H) → Nat
  | [] => 0
  | x :: r => uptoBulkEntry x + uptoBulkEntries r
def uptoBulkEntry {H : Type} : Lit × DataW H → Nat
  | (.string bytes, d) => bytes.length + uptoBulk d + 1
  | (_, d) => uptoBulk d + 1
 end
def uptoSmall : (H : Type) → List (DataW H) → Bool := fun _ ds => decide (uptoBulkAll ds ≤ 1048576)
def OpenSpec.upto (s : _root_.Go.ChangeSpec) : _root_.Go.OpenSpec := { _root_.Go.OpenSpec.ofChange s with cond := some uptoSmall }

/-- 'laws.FnRingText', WHERE WHAT IT READS IS OF BULK AT MOST 1048576: true; the input reads as it did. -/
def fnRingTextUptoRow : OpenClaim := { program := "ytpideooccccfgaa", sum := "c4fe1814e2d7b434f3fbac15b61fc98e992582382f938dc909dc49ae13a3cf7d", func := "loop.example/finiterings/laws.FnRingText", spec := "fnRingText", inPlace := ["internal/bytealg.IndexByteString"], apart := false, narrowed := true }
def FnRingTextUptoSaid : Prop := fnRingTextUptoRow.holds Try.pinned (OpenSpec.upto fnRingTextSpec)

/-- 'laws.FnIntegers', WHERE WHAT IT READS IS OF BULK AT MOST 1048576: true; the input reads as it did. -/
def fnIntegersUptoRow : OpenClaim := { program := "ytpideooccccfgaa", sum := "c4fe1814e2d7b434f3fbac15b61fc98e992582382f938dc909dc49ae13a3cf7d", func := "loop.example/finiterings/laws.FnIntegers", spec := "fnIntegers", unfollowed := true, recurses := true, apart := false, narrowed := true }
def FnIntegersUptoSaid : Prop := fnIntegersUptoRow.holds Try.pinned (OpenSpec.upto fnIntegersSpec)

/-- 'laws.FnProduct', WHERE WHAT IT READS IS OF BULK AT MOST 1048576: true; the input reads as it did. -/
def fnProductUptoRow : OpenClaim := { program := "ytpideooccccfgaa", sum := "c4fe1814e2d7b434f3fbac15b61fc98e992582382f938dc909dc49ae13a3cf7d", func := "loop.example/finiterings/laws.FnProduct", spec := "fnProduct", unfollowed := true, recurses := true, apart := false, narrowed := true }
def FnProductUptoSaid : Prop := fnProductUptoRow.holds Try.pinned (OpenSpec.upto fnProductSpec)

/-- 'laws.FnParts', WHERE WHAT IT READS IS OF BULK AT MOST 1048576: true; the input reads as it did. -/
def fnPartsUptoRow : OpenClaim := { program := "ytpideooccccfgaa", sum := "c4fe1814e2d7b434f3fbac15b61fc98e992582382f938dc909dc49ae13a3cf7d", func := "loop.example/finiterings/laws.FnParts", spec := "fnParts", apart := false, narrowed := true }
def FnPartsUptoSaid : Prop := fnPartsUptoRow.holds Try.pinned (OpenSpec.upto fnPartsSpec)

/-- 'laws.FnTower', WHERE WHAT IT READS IS OF BULK AT MOST 1048576: true; the input reads as it did. -/
def fnTowerUptoRow : OpenClaim := { program := "ytpideooccccfgaa", sum := "c4fe1814e2d7b434f3fbac15b61fc98e992582382f938dc909dc49ae13a3cf7d", func := "loop.example/finiterings/laws.FnTower", spec := "fnTower", unfollowed := true, recurses := true, apart := false, narrowed := true }
def FnTowerUptoSaid : Prop := fnTowerUptoRow.holds Try.pinned (OpenSpec.upto fnTowerSpec)

/-- 'laws.FnCoefficients', WHERE WHAT IT READS IS OF BULK AT MOST 1048576: true; the input reads as it did. -/
def fnCoefficientsUptoRow : OpenClaim := { program := "ytpideooccccfgaa", sum := "c4fe1814e2d7b434f3fbac15b61fc98e992582382f938dc909dc49ae13a3cf7d", func := "loop.example/finiterings/laws.FnCoefficients", spec := "fnCoefficients", unfollowed := true, recurses := true, apart := false, narrowed := true }
def FnCoefficientsUptoSaid : Prop := fnCoefficientsUptoRow.holds Try.pinned (OpenSpec.upto fnCoefficientsSpec)

/-- 'laws.FnRename', WHERE WHAT IT READS IS OF BULK AT MOST 1048576: true; the input reads as it did. -/
def fnRenameUptoRow : OpenClaim := { program := "ytpideooccccfgaa", sum := "c4fe1814e2d7b434f3fbac15b61fc98e992582382f938dc909dc49ae13a3cf7d", func := "loop.example/finiterings/laws.FnRename", spec := "fnRename", unfollowed := true, recurses := true, apart := false, narrowed := true }
def FnRenameUptoSaid : Prop := fnRenameUptoRow.holds Try.pinned (OpenSpec.upto fnRenameSpec)

/-- 'laws.FnMake', WHERE WHAT IT READS IS OF BULK AT MOST 1048576: true; the input reads as it did. -/
def fnMakeUptoRow : OpenClaim := { program := "ytpideooccccfgaa", sum := "c4fe1814e2d7b434f3fbac15b61fc98e992582382f938dc909dc49ae13a3cf7d", func := "loop.example/finiterings/laws.FnMake", spec := "fnMake", unfollowed := true, recurses := true, apart := false, narrowed := true }
def FnMakeUptoSaid : Prop := fnMakeUptoRow.holds Try.pinned (OpenSpec.upto fnMakeSpec)

/-- 'laws.FnUnits', WHERE WHAT IT READS IS OF BULK AT MOST 1048576: true; the input reads as it did. -/
def fnUnitsUptoRow : OpenClaim := { program := "ytpideooccccfgaa", sum := "c4fe1814e2d7b434f3fbac15b61fc98e992582382f938dc909dc49ae13a3cf7d", func := "loop.example/finiterings/laws.FnUnits", spec := "fnUnits", unfollowed := true, recurses := true, apart := false, narrowed := true }
def FnUnitsUptoSaid : Prop := fnUnitsUptoRow.holds Try.pinned (OpenSpec.upto fnUnitsSpec)

/-- 'laws.FnInverse', WHERE WHAT IT READS IS OF BULK AT MOST 1048576: true; the input reads as it did. -/
def fnInverseUptoRow : OpenClaim := { program := "ytpideooccccfgaa", sum := "c4fe1814e2d7b434f3fbac15b61fc98e992582382f938dc909dc49ae13a3cf7d", func := "loop.example/finiterings/laws.FnInverse", spec := "fnInverse", unfollowed := true, recurses := true, apart := false, narrowed := true }
def FnInverseUptoSaid : Prop := fnInverseUptoRow.holds Try.pinned (OpenSpec.upto fnInverseSpec)

/-- 'laws.FnNilpotents', WHERE WHAT IT READS IS OF BULK AT MOST 1048576: true; the input reads as it did. -/
def fnNilpotentsUptoRow : OpenClaim := { program := "ytpideooccccfgaa", sum := "c4fe1814e2d7b434f3fbac15b61fc98e992582382f938dc909dc49ae13a3cf7d", func := "loop.example/finiterings/laws.FnNilpotents", spec := "fnNilpotents", unfollowed := true, recurses := true, apart := false, narrowed := true }
def FnNilpotentsUptoSaid : Prop := fnNilpotentsUptoRow.holds Try.pinned (OpenSpec.upto fnNilpotentsSpec)

/-- 'laws.FnIdempotents', WHERE WHAT IT READS IS OF BULK AT MOST 1048576: true; the input reads as it did. -/
def fnIdempotentsUptoRow : OpenClaim := { program := "ytpideooccccfgaa", sum := "c4fe1814e2d7b434f3fbac15b61fc98e992582382f938dc909dc49ae13a3cf7d", func := "loop.example/finiterings/laws.FnIdempotents", spec := "fnIdempotents", unfollowed := true, recurses := true, apart := false, narrowed := true }
def FnIdempotentsUptoSaid : Prop := fnIdempotentsUptoRow.holds Try.pinned (OpenSpec.upto fnIdempotentsSpec)

/-- 'laws.FnOrders', WHERE WHAT IT READS IS OF BULK AT MOST 1048576: true; the input reads as it did. -/
def fnOrdersUptoRow : OpenClaim := { program := "ytpideooccccfgaa", sum := "c4fe1814e2d7b434f3fbac15b61fc98e992582382f938dc909dc49ae13a3cf7d", func := "loop.example/finiterings/laws.FnOrders", spec := "fnOrders", unfollowed := true, recurses := true, apart := false, narrowed := true }
def FnOrdersUptoSaid : Prop := fnOrdersUptoRow.holds Try.pinned (OpenSpec.upto fnOrdersSpec)

/-- 'laws.FnAssociates', WHERE WHAT IT READS IS OF BULK AT MOST 1048576: true; the input reads as it did. -/
def fnAssociatesUptoRow : OpenClaim := { program := "ytpideooccccfgaa", sum := "c4fe1814e2d7b434f3fbac15b61fc98e992582382f938dc909dc49ae13a3cf7d", func := "loop.example/finiterings/laws.FnAssociates", spec := "fnAssociates", unfollowed := true, recurses := true, apart := false, narrowed := true }
def FnAssociatesUptoSaid : Prop := fnAssociatesUptoRow.holds Try.pinned (OpenSpec.upto fnAssociatesSpec)

/-- 'laws.FnExactTowerRing', WHERE WHAT IT READS IS OF BULK AT MOST 1048576: true; the input reads as it did. -/
def fnExactTowerRingUptoRow : OpenClaim := { program := "ytpideooccccfgaa", sum := "c4fe1814e2d7b434f3fbac15b61fc98e992582382f938dc909dc49ae13a3cf7d", func := "loop.example/finiterings/laws.FnExactTowerRing", spec := "fnExactTowerRing", unfollowed := true, recurses := true, apart := false, narrowed := true }
def FnExactTowerRingUptoSaid : Prop := fnExactTowerRingUptoRow.holds Try.pinned (OpenSpec.upto fnExactTowerRingSpec)

/-- 'laws.FnExactMakeRing', WHERE WHAT IT READS IS OF BULK AT MOST 1048576: true; the input reads as it did. -/
def fnExactMakeRingUptoRow : OpenClaim := { program := "ytpideooccccfgaa", sum := "c4fe1814e2d7b434f3fbac15b61fc98e992582382f938dc909dc49ae13a3cf7d", func := "loop.example/finiterings/laws.FnExactMakeRing", spec := "fnExactMakeRing", unfollowed := true, recurses := true, apart := false, narrowed := true }
def FnExactMakeRingUptoSaid : Prop := fnExactMakeRingUptoRow.holds Try.pinned (OpenSpec.upto fnExactMakeRingSpec)

end Rows
end Go.Proofs.Ytpideooccccfgaa
