/-
  No cell of these rows narrows 'for every input' (looked for: loops, veiled, ifaces, maps, wideKeys, modest, calm, conditions, laid).
  DERIVED. THE GIVEN ROWS OF THIS SEAT. 15 by the template 'for every input the law returns true; each argument reads behind the call as it read before'; 0 by the template 'total and deterministic' (their statements: YtmfplmpipgnajaaTotals.lean).
  GIVEN WITH THE SEED: the statements are not yours to turn. If you find one false, say at which input.
  Laid BY PROGRAM, IN A SANDBOX (cutbox-rows.mjs): the forced cells as the released guide's own fill.sh prints them over the translation 5d6df4bb09ba9bc3… (all of the seat's roots in one cut). By AI agents, Wed Nov 11 2026. No macro, syntax, notation, axiom, sorry.
-/
import Derived.Test.YtmfplmpipgnajaaChecked
import GoSem.Claim
import GoSem.ClaimJoined
import GoSem.ClaimMapViews
import Derived.JoinedTies
import Derived.KernelRfl
namespace Go.Proofs.Ytmfplmpipgnajaa
/- THE CELL 'sum', in the pinned program and in every row, IS THE sha256 OF THE DUMP (.gsa) THAT YtmfplmpipgnajaaProg.lean LOADS. Nothing in Lean hashes anything: it is a label: what it is worth is what the hold of that sum in a sandbox is worth. -/
noncomputable def Try.pinned : Pinned := { name := "ytmfplmpipgnajaa", sum := "5d6df4bb09ba9bc3445f0a144650fad300d6cabfbc726b194f08ca8c1f24d57e", checked := Try.checked }
namespace Rows
def none {H : Type} : Left H := { results := [], args := [] }

/-- 'laws.FnRingValid': WHATEVER THE INPUT: true; the input reads as it did. -/
def fnRingValidSpec : ChangeSpec := { name := "fnRingValid", fn := fun _ => fun
  | [d] => { results := [.lit (.bool true)], args := [d] }
  | _ => none }
def fnRingValidRow : OpenClaim := { program := "ytmfplmpipgnajaa", sum := "5d6df4bb09ba9bc3445f0a144650fad300d6cabfbc726b194f08ca8c1f24d57e", func := "loop.example/finiterings/laws.FnRingValid", spec := "fnRingValid", apart := false }
def FnRingValidSaid : Prop := fnRingValidRow.holds Try.pinned (OpenSpec.ofChange fnRingValidSpec)

/-- ITS FALSE NEIGHBOUR: 'it returns false'. Refute it at one input. -/
def fnRingValidWrong : ChangeSpec := { name := "fnRingValid", fn := fun _ => fun
  | [d] => { results := [.lit (.bool false)], args := [d] }
  | _ => none }
def FnRingValidWrongFalsely : Prop := fnRingValidRow.holds Try.pinned (OpenSpec.ofChange fnRingValidWrong)

/-- 'laws.FnArithmetic': WHATEVER THE INPUT: true; the input reads as it did. -/
def fnArithmeticSpec : ChangeSpec := { name := "fnArithmetic", fn := fun _ => fun
  | [d] => { results := [.lit (.bool true)], args := [d] }
  | _ => none }
def fnArithmeticRow : OpenClaim := { program := "ytmfplmpipgnajaa", sum := "5d6df4bb09ba9bc3445f0a144650fad300d6cabfbc726b194f08ca8c1f24d57e", func := "loop.example/finiterings/laws.FnArithmetic", spec := "fnArithmetic", apart := false }
def FnArithmeticSaid : Prop := fnArithmeticRow.holds Try.pinned (OpenSpec.ofChange fnArithmeticSpec)

/-- ITS FALSE NEIGHBOUR: 'it returns false'. Refute it at one input. -/
def fnArithmeticWrong : ChangeSpec := { name := "fnArithmetic", fn := fun _ => fun
  | [d] => { results := [.lit (.bool false)], args := [d] }
  | _ => none }
def FnArithmeticWrongFalsely : Prop := fnArithmeticRow.holds Try.pinned (OpenSpec.ofChange fnArithmeticWrong)

/-- 'laws.FnTimes': WHATEVER THE INPUT: true; the input reads as it did. -/
def fnTimesSpec : ChangeSpec := { name := "fnTimes", fn := fun _ => fun
  | [d1, d2] => { results := [.lit (.bool true)], args := [d1, d2] }
  | _ => none }
def fnTimesRow : OpenClaim := { program := "ytmfplmpipgnajaa", sum := "5d6df4bb09ba9bc3445f0a144650fad300d6cabfbc726b194f08ca8c1f24d57e", func := "loop.example/finiterings/laws.FnTimes", spec := "fnTimes", apart := false }
def FnTimesSaid : Prop := fnTimesRow.holds Try.pinned (OpenSpec.ofChange fnTimesSpec)

/-- ITS FALSE NEIGHBOUR: 'it returns false'. Refute it at one input. -/
def fnTimesWrong : ChangeSpec := { name := "fnTimes", fn := fun _ => fun
  | [d1, d2] => { results := [.lit (.bool false)], args := [d1, d2] }
  | _ => none }
def FnTimesWrongFalsely : Prop := fnTimesRow.holds Try.pinned (OpenSpec.ofChange fnTimesWrong)

/-- 'laws.FnPower': WHATEVER THE INPUT: true; the input reads as it did. -/
def fnPowerSpec : ChangeSpec := { name := "fnPower", fn := fun _ => fun
  | [d1, d2] => { results := [.lit (.bool true)], args := [d1, d2] }
  | _ => none }
def fnPowerRow : OpenClaim := { program := "ytmfplmpipgnajaa", sum := "5d6df4bb09ba9bc3445f0a144650fad300d6cabfbc726b194f08ca8c1f24d57e", func := "loop.example/finiterings/laws.FnPower", spec := "fnPower", apart := false }
def FnPowerSaid : Prop := fnPowerRow.holds Try.pinned (OpenSpec.ofChange fnPowerSpec)

/-- ITS FALSE NEIGHBOUR: 'it returns false'. Refute it at one input. -/
def fnPowerWrong : ChangeSpec := { name := "fnPower", fn := fun _ => fun
  | [d1, d2] => { results := [.lit (.bool false)], args := [d1, d2] }
  | _ => none }
def FnPowerWrongFalsely : Prop := fnPowerRow.holds Try.pinned (OpenSpec.ofChange fnPowerWrong)

/-- 'laws.FnRingText': WHATEVER THE INPUT: true; the input reads as it did. -/
def fnRingTextSpec : ChangeSpec := { name := "fnRingText", fn := fun _ => fun
  | [d1, d2] => { results := [.lit (.bool true)], args := [d1, d2] }
  | _ => none }
def fnRingTextRow : OpenClaim := { program := "ytmfplmpipgnajaa", sum := "5d6df4bb09ba9bc3445f0a144650fad300d6cabfbc726b194f08ca8c1f24d57e", func := "loop.example/finiterings/laws.FnRingText", spec := "fnRingText", inPlace := ["internal/bytealg.IndexByteString"], apart := false }
def FnRingTextSaid : Prop := fnRingTextRow.holds Try.pinned (OpenSpec.ofChange fnRingTextSpec)

/-- ITS FALSE NEIGHBOUR: 'it returns false'. Refute it at one input. -/
def fnRingTextWrong : ChangeSpec := { name := "fnRingText", fn := fun _ => fun
  | [d1, d2] => { results := [.lit (.bool false)], args := [d1, d2] }
  | _ => none }
def FnRingTextWrongFalsely : Prop := fnRingTextRow.holds Try.pinned (OpenSpec.ofChange fnRingTextWrong)

/-- 'laws.FnExactRingValid': WHATEVER THE INPUT: true; the input reads as it did. -/
def fnExactRingValidSpec : ChangeSpec := { name := "fnExactRingValid", fn := fun _ => fun
  | [d] => { results := [.lit (.bool true)], args := [d] }
  | _ => none }
def fnExactRingValidRow : OpenClaim := { program := "ytmfplmpipgnajaa", sum := "5d6df4bb09ba9bc3445f0a144650fad300d6cabfbc726b194f08ca8c1f24d57e", func := "loop.example/finiterings/laws.FnExactRingValid", spec := "fnExactRingValid", apart := false }
def FnExactRingValidSaid : Prop := fnExactRingValidRow.holds Try.pinned (OpenSpec.ofChange fnExactRingValidSpec)

/-- ITS FALSE NEIGHBOUR: 'it returns false'. Refute it at one input. -/
def fnExactRingValidWrong : ChangeSpec := { name := "fnExactRingValid", fn := fun _ => fun
  | [d] => { results := [.lit (.bool false)], args := [d] }
  | _ => none }
def FnExactRingValidWrongFalsely : Prop := fnExactRingValidRow.holds Try.pinned (OpenSpec.ofChange fnExactRingValidWrong)

/-- 'laws.FnExactAdd': WHATEVER THE INPUT: true; the input reads as it did. -/
def fnExactAddSpec : ChangeSpec := { name := "fnExactAdd", fn := fun _ => fun
  | [d1, d2, d3] => { results := [.lit (.bool true)], args := [d1, d2, d3] }
  | _ => none }
def fnExactAddRow : OpenClaim := { program := "ytmfplmpipgnajaa", sum := "5d6df4bb09ba9bc3445f0a144650fad300d6cabfbc726b194f08ca8c1f24d57e", func := "loop.example/finiterings/laws.FnExactAdd", spec := "fnExactAdd", apart := false }
def FnExactAddSaid : Prop := fnExactAddRow.holds Try.pinned (OpenSpec.ofChange fnExactAddSpec)

/-- ITS FALSE NEIGHBOUR: 'it returns false'. Refute it at one input. -/
def fnExactAddWrong : ChangeSpec := { name := "fnExactAdd", fn := fun _ => fun
  | [d1, d2, d3] => { results := [.lit (.bool false)], args := [d1, d2, d3] }
  | _ => none }
def FnExactAddWrongFalsely : Prop := fnExactAddRow.holds Try.pinned (OpenSpec.ofChange fnExactAddWrong)

/-- 'laws.FnExactMul': WHATEVER THE INPUT: true; the input reads as it did. -/
def fnExactMulSpec : ChangeSpec := { name := "fnExactMul", fn := fun _ => fun
  | [d1, d2, d3] => { results := [.lit (.bool true)], args := [d1, d2, d3] }
  | _ => none }
def fnExactMulRow : OpenClaim := { program := "ytmfplmpipgnajaa", sum := "5d6df4bb09ba9bc3445f0a144650fad300d6cabfbc726b194f08ca8c1f24d57e", func := "loop.example/finiterings/laws.FnExactMul", spec := "fnExactMul", apart := false }
def FnExactMulSaid : Prop := fnExactMulRow.holds Try.pinned (OpenSpec.ofChange fnExactMulSpec)

/-- ITS FALSE NEIGHBOUR: 'it returns false'. Refute it at one input. -/
def fnExactMulWrong : ChangeSpec := { name := "fnExactMul", fn := fun _ => fun
  | [d1, d2, d3] => { results := [.lit (.bool false)], args := [d1, d2, d3] }
  | _ => none }
def FnExactMulWrongFalsely : Prop := fnExactMulRow.holds Try.pinned (OpenSpec.ofChange fnExactMulWrong)

/-- 'laws.FnExactNeg': WHATEVER THE INPUT: true; the input reads as it did. -/
def fnExactNegSpec : ChangeSpec := { name := "fnExactNeg", fn := fun _ => fun
  | [d1, d2] => { results := [.lit (.bool true)], args := [d1, d2] }
  | _ => none }
def fnExactNegRow : OpenClaim := { program := "ytmfplmpipgnajaa", sum := "5d6df4bb09ba9bc3445f0a144650fad300d6cabfbc726b194f08ca8c1f24d57e", func := "loop.example/finiterings/laws.FnExactNeg", spec := "fnExactNeg", apart := false }
def FnExactNegSaid : Prop := fnExactNegRow.holds Try.pinned (OpenSpec.ofChange fnExactNegSpec)

/-- ITS FALSE NEIGHBOUR: 'it returns false'. Refute it at one input. -/
def fnExactNegWrong : ChangeSpec := { name := "fnExactNeg", fn := fun _ => fun
  | [d1, d2] => { results := [.lit (.bool false)], args := [d1, d2] }
  | _ => none }
def FnExactNegWrongFalsely : Prop := fnExactNegRow.holds Try.pinned (OpenSpec.ofChange fnExactNegWrong)

/-- 'laws.FnExactTimes': WHATEVER THE INPUT: true; the input reads as it did. -/
def fnExactTimesSpec : ChangeSpec := { name := "fnExactTimes", fn := fun _ => fun
  | [d1, d2, d3] => { results := [.lit (.bool true)], args := [d1, d2, d3] }
  | _ => none }
def fnExactTimesRow : OpenClaim := { program := "ytmfplmpipgnajaa", sum := "5d6df4bb09ba9bc3445f0a144650fad300d6cabfbc726b194f08ca8c1f24d57e", func := "loop.example/finiterings/laws.FnExactTimes", spec := "fnExactTimes", apart := false }
def FnExactTimesSaid : Prop := fnExactTimesRow.holds Try.pinned (OpenSpec.ofChange fnExactTimesSpec)

/-- ITS FALSE NEIGHBOUR: 'it returns false'. Refute it at one input. -/
def fnExactTimesWrong : ChangeSpec := { name := "fnExactTimes", fn := fun _ => fun
  | [d1, d2, d3] => { results := [.lit (.bool false)], args := [d1, d2, d3] }
  | _ => none }
def FnExactTimesWrongFalsely : Prop := fnExactTimesRow.holds Try.pinned (OpenSpec.ofChange fnExactTimesWrong)

/-- 'laws.FnExactPower': WHATEVER THE INPUT: true; the input reads as it did. -/
def fnExactPowerSpec : ChangeSpec := { name := "fnExactPower", fn := fun _ => fun
  | [d1, d2, d3] => { results := [.lit (.bool true)], args := [d1, d2, d3] }
  | _ => none }
def fnExactPowerRow : OpenClaim := { program := "ytmfplmpipgnajaa", sum := "5d6df4bb09ba9bc3445f0a144650fad300d6cabfbc726b194f08ca8c1f24d57e", func := "loop.example/finiterings/laws.FnExactPower", spec := "fnExactPower", apart := false }
def FnExactPowerSaid : Prop := fnExactPowerRow.holds Try.pinned (OpenSpec.ofChange fnExactPowerSpec)

/-- ITS FALSE NEIGHBOUR: 'it returns false'. Refute it at one input. -/
def fnExactPowerWrong : ChangeSpec := { name := "fnExactPower", fn := fun _ => fun
  | [d1, d2, d3] => { results := [.lit (.bool false)], args := [d1, d2, d3] }
  | _ => none }
def FnExactPowerWrongFalsely : Prop := fnExactPowerRow.holds Try.pinned (OpenSpec.ofChange fnExactPowerWrong)

/-- 'laws.FnExactCharacteristicOf': WHATEVER THE INPUT: true; the input reads as it did. -/
def fnExactCharacteristicOfSpec : ChangeSpec := { name := "fnExactCharacteristicOf", fn := fun _ => fun
  | [d] => { results := [.lit (.bool true)], args := [d] }
  | _ => none }
def fnExactCharacteristicOfRow : OpenClaim := { program := "ytmfplmpipgnajaa", sum := "5d6df4bb09ba9bc3445f0a144650fad300d6cabfbc726b194f08ca8c1f24d57e", func := "loop.example/finiterings/laws.FnExactCharacteristicOf", spec := "fnExactCharacteristicOf", apart := false }
def FnExactCharacteristicOfSaid : Prop := fnExactCharacteristicOfRow.holds Try.pinned (OpenSpec.ofChange fnExactCharacteristicOfSpec)

/-- ITS FALSE NEIGHBOUR: 'it returns false'. Refute it at one input. -/
def fnExactCharacteristicOfWrong : ChangeSpec := { name := "fnExactCharacteristicOf", fn := fun _ => fun
  | [d] => { results := [.lit (.bool false)], args := [d] }
  | _ => none }
def FnExactCharacteristicOfWrongFalsely : Prop := fnExactCharacteristicOfRow.holds Try.pinned (OpenSpec.ofChange fnExactCharacteristicOfWrong)

/-- 'laws.FnExactFormatRing': WHATEVER THE INPUT: true; the input reads as it did. -/
def fnExactFormatRingSpec : ChangeSpec := { name := "fnExactFormatRing", fn := fun _ => fun
  | [d] => { results := [.lit (.bool true)], args := [d] }
  | _ => none }
def fnExactFormatRingRow : OpenClaim := { program := "ytmfplmpipgnajaa", sum := "5d6df4bb09ba9bc3445f0a144650fad300d6cabfbc726b194f08ca8c1f24d57e", func := "loop.example/finiterings/laws.FnExactFormatRing", spec := "fnExactFormatRing", apart := false }
def FnExactFormatRingSaid : Prop := fnExactFormatRingRow.holds Try.pinned (OpenSpec.ofChange fnExactFormatRingSpec)

/-- ITS FALSE NEIGHBOUR: 'it returns false'. Refute it at one input. -/
def fnExactFormatRingWrong : ChangeSpec := { name := "fnExactFormatRing", fn := fun _ => fun
  | [d] => { results := [.lit (.bool false)], args := [d] }
  | _ => none }
def FnExactFormatRingWrongFalsely : Prop := fnExactFormatRingRow.holds Try.pinned (OpenSpec.ofChange fnExactFormatRingWrong)

/-- 'laws.FnExactParseRing': WHATEVER THE INPUT: true; the input reads as it did. -/
def fnExactParseRingSpec : ChangeSpec := { name := "fnExactParseRing", fn := fun _ => fun
  | [d] => { results := [.lit (.bool true)], args := [d] }
  | _ => none }
def fnExactParseRingRow : OpenClaim := { program := "ytmfplmpipgnajaa", sum := "5d6df4bb09ba9bc3445f0a144650fad300d6cabfbc726b194f08ca8c1f24d57e", func := "loop.example/finiterings/laws.FnExactParseRing", spec := "fnExactParseRing", inPlace := ["internal/bytealg.IndexByteString"], apart := false }
def FnExactParseRingSaid : Prop := fnExactParseRingRow.holds Try.pinned (OpenSpec.ofChange fnExactParseRingSpec)

/-- ITS FALSE NEIGHBOUR: 'it returns false'. Refute it at one input. -/
def fnExactParseRingWrong : ChangeSpec := { name := "fnExactParseRing", fn := fun _ => fun
  | [d] => { results := [.lit (.bool false)], args := [d] }
  | _ => none }
def FnExactParseRingWrongFalsely : Prop := fnExactParseRingRow.holds Try.pinned (OpenSpec.ofChange fnExactParseRingWrong)

/-- 'laws.FnExactSameRing': WHATEVER THE INPUT: true; the input reads as it did. -/
def fnExactSameRingSpec : ChangeSpec := { name := "fnExactSameRing", fn := fun _ => fun
  | [d1, d2] => { results := [.lit (.bool true)], args := [d1, d2] }
  | _ => none }
def fnExactSameRingRow : OpenClaim := { program := "ytmfplmpipgnajaa", sum := "5d6df4bb09ba9bc3445f0a144650fad300d6cabfbc726b194f08ca8c1f24d57e", func := "loop.example/finiterings/laws.FnExactSameRing", spec := "fnExactSameRing", apart := false }
def FnExactSameRingSaid : Prop := fnExactSameRingRow.holds Try.pinned (OpenSpec.ofChange fnExactSameRingSpec)

/-- ITS FALSE NEIGHBOUR: 'it returns false'. Refute it at one input. -/
def fnExactSameRingWrong : ChangeSpec := { name := "fnExactSameRing", fn := fun _ => fun
  | [d1, d2] => { results := [.lit (.bool false)], args := [d1, d2] }
  | _ => none }
def FnExactSameRingWrongFalsely : Prop := fnExactSameRingRow.holds Try.pinned (OpenSpec.ofChange fnExactSameRingWrong)

/- THE SECOND FORM. 'bulk': how many values and letters a reading holds, each counted each time it is reached (what is shared counts as often as it is met; a slice's spare places count too). A statement '..UptoSaid' is the law's where the arguments, and the package variables that the reading takes, are together of bulk at most 1048576: NARROWER than '..Said'. Prove '..Said' where nothing that the law and all that it calls make is longer than what came in: it says more and counts as full. Else prove '..UptoSaid'. A law counts once. -/
mutual
def uptoBulk {H : Type} : DataW H → Nat
  | .lit (.string bytes) => bytes.length + 1
  | .lit _ => 1
  | .nil => 1
  | .ptr d => uptoBulk d + 1
  | .slice elems spare => uptoBulkAll elems + uptoBulkAll spare + 1
  | .agg parts => uptoBulkAll parts + 1
  | .iface _ d => uptoBulk d + 1
  | .map entries => uptoBulkEntries entries + 1
  | .held _ => 1
def uptoBulkAll {H : Type} : List (DataW H) → Nat
  | [] => 0
  | d :: r => uptoBulk d + uptoBulkAll r
def uptoBulkEntries {H : Type} : List (Lit × DataW H) → Nat
  | [] => 0
  | x :: r => uptoBulkEntry x + uptoBulkEntries r
def uptoBulkEntry {H : Type} : Lit × DataW H → Nat
  | (.string bytes, d) => bytes.length + uptoBulk d + 1
  | (_, d) => uptoBulk d + 1
 end
def uptoSmall : (H : Type) → List (DataW H) → Bool := fun _ ds => decide (uptoBulkAll ds ≤ 1048576)
def OpenSpec.upto (s : _root_.Go.ChangeSpec) : _root_.Go.OpenSpec := { _root_.Go.OpenSpec.ofChange s with cond := some uptoSmall }

/-- 'laws.FnRingValid', WHERE WHAT IT READS IS OF BULK AT MOST 1048576: true; the input reads as it did. -/
def fnRingValidUptoRow : OpenClaim := { program := "ytmfplmpipgnajaa", sum := "5d6df4bb09ba9bc3445f0a144650fad300d6cabfbc726b194f08ca8c1f24d57e", func := "loop.example/finiterings/laws.FnRingValid", spec := "fnRingValid", apart := false, narrowed := true }
def FnRingValidUptoSaid : Prop := fnRingValidUptoRow.holds Try.pinned (OpenSpec.upto fnRingValidSpec)

/-- 'laws.FnArithmetic', WHERE WHAT IT READS IS OF BULK AT MOST 1048576: true; the input reads as it did. -/
def fnArithmeticUptoRow : OpenClaim := { program := "ytmfplmpipgnajaa", sum := "5d6df4bb09ba9bc3445f0a144650fad300d6cabfbc726b194f08ca8c1f24d57e", func := "loop.example/finiterings/laws.FnArithmetic", spec := "fnArithmetic", apart := false, narrowed := true }
def FnArithmeticUptoSaid : Prop := fnArithmeticUptoRow.holds Try.pinned (OpenSpec.upto fnArithmeticSpec)

/-- 'laws.FnTimes', WHERE WHAT IT READS IS OF BULK AT MOST 1048576: true; the input reads as it did. -/
def fnTimesUptoRow : OpenClaim := { program := "ytmfplmpipgnajaa", sum := "5d6df4bb09ba9bc3445f0a144650fad300d6cabfbc726b194f08ca8c1f24d57e", func := "loop.example/finiterings/laws.FnTimes", spec := "fnTimes", apart := false, narrowed := true }
def FnTimesUptoSaid : Prop := fnTimesUptoRow.holds Try.pinned (OpenSpec.upto fnTimesSpec)

/-- 'laws.FnPower', WHERE WHAT IT READS IS OF BULK AT MOST 1048576: true; the input reads as it did. -/
def fnPowerUptoRow : OpenClaim := { program := "ytmfplmpipgnajaa", sum := "5d6df4bb09ba9bc3445f0a144650fad300d6cabfbc726b194f08ca8c1f24d57e", func := "loop.example/finiterings/laws.FnPower", spec := "fnPower", apart := false, narrowed := true }
def FnPowerUptoSaid : Prop := fnPowerUptoRow.holds Try.pinned (OpenSpec.upto fnPowerSpec)

/-- 'laws.FnRingText', WHERE WHAT IT READS IS OF BULK AT MOST 1048576: true; the input reads as it did. -/
def fnRingTextUptoRow : OpenClaim := { program := "ytmfplmpipgnajaa", sum := "5d6df4bb09ba9bc3445f0a144650fad300d6cabfbc726b194f08ca8c1f24d57e", func := "loop.example/finiterings/laws.FnRingText", spec := "fnRingText", inPlace := ["internal/bytealg.IndexByteString"], apart := false, narrowed := true }
def FnRingTextUptoSaid : Prop := fnRingTextUptoRow.holds Try.pinned (OpenSpec.upto fnRingTextSpec)

/-- 'laws.FnExactRingValid', WHERE WHAT IT READS IS OF BULK AT MOST 1048576: true; the input reads as it did. -/
def fnExactRingValidUptoRow : OpenClaim := { program := "ytmfplmpipgnajaa", sum := "5d6df4bb09ba9bc3445f0a144650fad300d6cabfbc726b194f08ca8c1f24d57e", func := "loop.example/finiterings/laws.FnExactRingValid", spec := "fnExactRingValid", apart := false, narrowed := true }
def FnExactRingValidUptoSaid : Prop := fnExactRingValidUptoRow.holds Try.pinned (OpenSpec.upto fnExactRingValidSpec)

/-- 'laws.FnExactAdd', WHERE WHAT IT READS IS OF BULK AT MOST 1048576: true; the input reads as it did. -/
def fnExactAddUptoRow : OpenClaim := { program := "ytmfplmpipgnajaa", sum := "5d6df4bb09ba9bc3445f0a144650fad300d6cabfbc726b194f08ca8c1f24d57e", func := "loop.example/finiterings/laws.FnExactAdd", spec := "fnExactAdd", apart := false, narrowed := true }
def FnExactAddUptoSaid : Prop := fnExactAddUptoRow.holds Try.pinned (OpenSpec.upto fnExactAddSpec)

/-- 'laws.FnExactMul', WHERE WHAT IT READS IS OF BULK AT MOST 1048576: true; the input reads as it did. -/
def fnExactMulUptoRow : OpenClaim := { program := "ytmfplmpipgnajaa", sum := "5d6df4bb09ba9bc3445f0a144650fad300d6cabfbc726b194f08ca8c1f24d57e", func := "loop.example/finiterings/laws.FnExactMul", spec := "fnExactMul", apart := false, narrowed := true }
def FnExactMulUptoSaid : Prop := fnExactMulUptoRow.holds Try.pinned (OpenSpec.upto fnExactMulSpec)

/-- 'laws.FnExactNeg', WHERE WHAT IT READS IS OF BULK AT MOST 1048576: true; the input reads as it did. -/
def fnExactNegUptoRow : OpenClaim := { program := "ytmfplmpipgnajaa", sum := "5d6df4bb09ba9bc3445f0a144650fad300d6cabfbc726b194f08ca8c1f24d57e", func := "loop.example/finiterings/laws.FnExactNeg", spec := "fnExactNeg", apart := false, narrowed := true }
def FnExactNegUptoSaid : Prop := fnExactNegUptoRow.holds Try.pinned (OpenSpec.upto fnExactNegSpec)

/-- 'laws.FnExactTimes', WHERE WHAT IT READS IS OF BULK AT MOST 1048576: true; the input reads as it did. -/
def fnExactTimesUptoRow : OpenClaim := { program := "ytmfplmpipgnajaa", sum := "5d6df4bb09ba9bc3445f0a144650fad300d6cabfbc726b194f08ca8c1f24d57e", func := "loop.example/finiterings/laws.FnExactTimes", spec := "fnExactTimes", apart := false, narrowed := true }
def FnExactTimesUptoSaid : Prop := fnExactTimesUptoRow.holds Try.pinned (OpenSpec.upto fnExactTimesSpec)

/-- 'laws.FnExactPower', WHERE WHAT IT READS IS OF BULK AT MOST 1048576: true; the input reads as it did. -/
def fnExactPowerUptoRow : OpenClaim := { program := "ytmfplmpipgnajaa", sum := "5d6df4bb09ba9bc3445f0a144650fad300d6cabfbc726b194f08ca8c1f24d57e", func := "loop.example/finiterings/laws.FnExactPower", spec := "fnExactPower", apart := false, narrowed := true }
def FnExactPowerUptoSaid : Prop := fnExactPowerUptoRow.holds Try.pinned (OpenSpec.upto fnExactPowerSpec)

/-- 'laws.FnExactCharacteristicOf', WHERE WHAT IT READS IS OF BULK AT MOST 1048576: true; the input reads as it did. -/
def fnExactCharacteristicOfUptoRow : OpenClaim := { program := "ytmfplmpipgnajaa", sum := "5d6df4bb09ba9bc3445f0a144650fad300d6cabfbc726b194f08ca8c1f24d57e", func := "loop.example/finiterings/laws.FnExactCharacteristicOf", spec := "fnExactCharacteristicOf", apart := false, narrowed := true }
def FnExactCharacteristicOfUptoSaid : Prop := fnExactCharacteristicOfUptoRow.holds Try.pinned (OpenSpec.upto fnExactCharacteristicOfSpec)

/-- 'laws.FnExactFormatRing', WHERE WHAT IT READS IS OF BULK AT MOST 1048576: true; the input reads as it did. -/
def fnExactFormatRingUptoRow : OpenClaim := { program := "ytmfplmpipgnajaa", sum := "5d6df4bb09ba9bc3445f0a144650fad300d6cabfbc726b194f08ca8c1f24d57e", func := "loop.example/finiterings/laws.FnExactFormatRing", spec := "fnExactFormatRing", apart := false, narrowed := true }
def FnExactFormatRingUptoSaid : Prop := fnExactFormatRingUptoRow.holds Try.pinned (OpenSpec.upto fnExactFormatRingSpec)

/-- 'laws.FnExactParseRing', WHERE WHAT IT READS IS OF BULK AT MOST 1048576: true; the input reads as it did. -/
def fnExactParseRingUptoRow : OpenClaim := { program := "ytmfplmpipgnajaa", sum := "5d6df4bb09ba9bc3445f0a144650fad300d6cabfbc726b194f08ca8c1f24d57e", func := "loop.example/finiterings/laws.FnExactParseRing", spec := "fnExactParseRing", inPlace := ["internal/bytealg.IndexByteString"], apart := false, narrowed := true }
def FnExactParseRingUptoSaid : Prop := fnExactParseRingUptoRow.holds Try.pinned (OpenSpec.upto fnExactParseRingSpec)

/-- 'laws.FnExactSameRing', WHERE WHAT IT READS IS OF BULK AT MOST 1048576: true; the input reads as it did. -/
def fnExactSameRingUptoRow : OpenClaim := { program := "ytmfplmpipgnajaa", sum := "5d6df4bb09ba9bc3445f0a144650fad300d6cabfbc726b194f08ca8c1f24d57e", func := "loop.example/finiterings/laws.FnExactSameRing", spec := "fnExactSameRing", apart := false, narrowed := true }
def FnExactSameRingUptoSaid : Prop := fnExactSameRingUptoRow.holds Try.pinned (OpenSpec.upto fnExactSameRingSpec)

end Rows
end Go.Proofs.Ytmfplmpipgnajaa
