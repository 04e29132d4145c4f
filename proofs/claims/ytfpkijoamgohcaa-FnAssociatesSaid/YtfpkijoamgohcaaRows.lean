/-
  No cell of these rows narrows 'for every input' (looked for: loops, veiled, ifaces, maps, wideKeys, modest, calm, conditions, laid).
  DERIVED. THE GIVEN ROWS OF THIS SEAT. 9 by the template 'for every input the law returns true; each argument reads behind the call as it read before'; 0 by the template 'total and deterministic' (their statements: YtfpkijoamgohcaaTotals.lean).
  GIVEN WITH THE SEED: the statements are not yours to turn. If you find one false, say at which input.
  Laid BY PROGRAM, IN A SANDBOX (cutbox-rows.mjs): the forced cells as the released guide's own fill.sh prints them over the translation 4cf05f41cec41744… (all of the seat's roots in one cut). By AI agents, Wed Nov 11 2026. No macro, syntax, notation, axiom, sorry.
-/
import Derived.Test.YtfpkijoamgohcaaChecked
import GoSem.Claim
import GoSem.ClaimJoined
import GoSem.ClaimMapViews
import Derived.JoinedTies
import Derived.KernelRfl
namespace Go.Proofs.Ytfpkijoamgohcaa
/- THE CELL 'sum', in the pinned program and in every row, IS THE sha256 OF THE DUMP (.gsa) THAT YtfpkijoamgohcaaProg.lean LOADS. Nothing in Lean hashes anything: it is a label: what it is worth is what the hold of that sum in a sandbox is worth. -/
noncomputable def Try.pinned : Pinned := { name := "ytfpkijoamgohcaa", sum := "4cf05f41cec4174428641484f57013ceea3f03158c7be0bc9703059ffb5c9d64", checked := Try.checked }
namespace Rows
def none {H : Type} : Left H := { results := [], args := [] }

/-- 'laws.FnPush': WHATEVER THE INPUT: true; the input reads as it did. -/
def fnPushSpec : ChangeSpec := { name := "fnPush", fn := fun _ => fun
  | [d] => { results := [.lit (.bool true)], args := [d] }
  | _ => none }
def fnPushRow : OpenClaim := { program := "ytfpkijoamgohcaa", sum := "4cf05f41cec4174428641484f57013ceea3f03158c7be0bc9703059ffb5c9d64", func := "loop.example/finiterings/laws.FnPush", spec := "fnPush", unfollowed := true, recurses := true, apart := false }
def FnPushSaid : Prop := fnPushRow.holds Try.pinned (OpenSpec.ofChange fnPushSpec)

/-- ITS FALSE NEIGHBOUR: 'it returns false'. Refute it at one input. -/
def fnPushWrong : ChangeSpec := { name := "fnPush", fn := fun _ => fun
  | [d] => { results := [.lit (.bool false)], args := [d] }
  | _ => none }
def FnPushWrongFalsely : Prop := fnPushRow.holds Try.pinned (OpenSpec.ofChange fnPushWrong)

/-- 'laws.FnIdealOf': WHATEVER THE INPUT: true; the input reads as it did. -/
def fnIdealOfSpec : ChangeSpec := { name := "fnIdealOf", fn := fun _ => fun
  | [d] => { results := [.lit (.bool true)], args := [d] }
  | _ => none }
def fnIdealOfRow : OpenClaim := { program := "ytfpkijoamgohcaa", sum := "4cf05f41cec4174428641484f57013ceea3f03158c7be0bc9703059ffb5c9d64", func := "loop.example/finiterings/laws.FnIdealOf", spec := "fnIdealOf", unfollowed := true, recurses := true, apart := false }
def FnIdealOfSaid : Prop := fnIdealOfRow.holds Try.pinned (OpenSpec.ofChange fnIdealOfSpec)

/-- ITS FALSE NEIGHBOUR: 'it returns false'. Refute it at one input. -/
def fnIdealOfWrong : ChangeSpec := { name := "fnIdealOf", fn := fun _ => fun
  | [d] => { results := [.lit (.bool false)], args := [d] }
  | _ => none }
def FnIdealOfWrongFalsely : Prop := fnIdealOfRow.holds Try.pinned (OpenSpec.ofChange fnIdealOfWrong)

/-- 'laws.FnAssociates': WHATEVER THE INPUT: true; the input reads as it did. -/
def fnAssociatesSpec : ChangeSpec := { name := "fnAssociates", fn := fun _ => fun
  | [d] => { results := [.lit (.bool true)], args := [d] }
  | _ => none }
def fnAssociatesRow : OpenClaim := { program := "ytfpkijoamgohcaa", sum := "4cf05f41cec4174428641484f57013ceea3f03158c7be0bc9703059ffb5c9d64", func := "loop.example/finiterings/laws.FnAssociates", spec := "fnAssociates", unfollowed := true, recurses := true, apart := false }
def FnAssociatesSaid : Prop := fnAssociatesRow.holds Try.pinned (OpenSpec.ofChange fnAssociatesSpec)

/-- ITS FALSE NEIGHBOUR: 'it returns false'. Refute it at one input. -/
def fnAssociatesWrong : ChangeSpec := { name := "fnAssociates", fn := fun _ => fun
  | [d] => { results := [.lit (.bool false)], args := [d] }
  | _ => none }
def FnAssociatesWrongFalsely : Prop := fnAssociatesRow.holds Try.pinned (OpenSpec.ofChange fnAssociatesWrong)

/-- 'laws.FnExactTowerRing': WHATEVER THE INPUT: true; the input reads as it did. -/
def fnExactTowerRingSpec : ChangeSpec := { name := "fnExactTowerRing", fn := fun _ => fun
  | [d1, d2] => { results := [.lit (.bool true)], args := [d1, d2] }
  | _ => none }
def fnExactTowerRingRow : OpenClaim := { program := "ytfpkijoamgohcaa", sum := "4cf05f41cec4174428641484f57013ceea3f03158c7be0bc9703059ffb5c9d64", func := "loop.example/finiterings/laws.FnExactTowerRing", spec := "fnExactTowerRing", unfollowed := true, recurses := true, apart := false }
def FnExactTowerRingSaid : Prop := fnExactTowerRingRow.holds Try.pinned (OpenSpec.ofChange fnExactTowerRingSpec)

/-- ITS FALSE NEIGHBOUR: 'it returns false'. Refute it at one input. -/
def fnExactTowerRingWrong : ChangeSpec := { name := "fnExactTowerRing", fn := fun _ => fun
  | [d1, d2] => { results := [.lit (.bool false)], args := [d1, d2] }
  | _ => none }
def FnExactTowerRingWrongFalsely : Prop := fnExactTowerRingRow.holds Try.pinned (OpenSpec.ofChange fnExactTowerRingWrong)

/-- 'laws.FnExactMakeRing': WHATEVER THE INPUT: true; the input reads as it did. -/
def fnExactMakeRingSpec : ChangeSpec := { name := "fnExactMakeRing", fn := fun _ => fun
  | [d] => { results := [.lit (.bool true)], args := [d] }
  | _ => none }
def fnExactMakeRingRow : OpenClaim := { program := "ytfpkijoamgohcaa", sum := "4cf05f41cec4174428641484f57013ceea3f03158c7be0bc9703059ffb5c9d64", func := "loop.example/finiterings/laws.FnExactMakeRing", spec := "fnExactMakeRing", unfollowed := true, recurses := true, apart := false }
def FnExactMakeRingSaid : Prop := fnExactMakeRingRow.holds Try.pinned (OpenSpec.ofChange fnExactMakeRingSpec)

/-- ITS FALSE NEIGHBOUR: 'it returns false'. Refute it at one input. -/
def fnExactMakeRingWrong : ChangeSpec := { name := "fnExactMakeRing", fn := fun _ => fun
  | [d] => { results := [.lit (.bool false)], args := [d] }
  | _ => none }
def FnExactMakeRingWrongFalsely : Prop := fnExactMakeRingRow.holds Try.pinned (OpenSpec.ofChange fnExactMakeRingWrong)

/-- 'laws.FnRingText': WHATEVER THE INPUT: true; the input reads as it did. -/
def fnRingTextSpec : ChangeSpec := { name := "fnRingText", fn := fun _ => fun
  | [d1, d2] => { results := [.lit (.bool true)], args := [d1, d2] }
  | _ => none }
def fnRingTextRow : OpenClaim := { program := "ytfpkijoamgohcaa", sum := "4cf05f41cec4174428641484f57013ceea3f03158c7be0bc9703059ffb5c9d64", func := "loop.example/finiterings/laws.FnRingText", spec := "fnRingText", inPlace := ["internal/bytealg.IndexByteString"], apart := false }
def FnRingTextSaid : Prop := fnRingTextRow.holds Try.pinned (OpenSpec.ofChange fnRingTextSpec)

/-- ITS FALSE NEIGHBOUR: 'it returns false'. Refute it at one input. -/
def fnRingTextWrong : ChangeSpec := { name := "fnRingText", fn := fun _ => fun
  | [d1, d2] => { results := [.lit (.bool false)], args := [d1, d2] }
  | _ => none }
def FnRingTextWrongFalsely : Prop := fnRingTextRow.holds Try.pinned (OpenSpec.ofChange fnRingTextWrong)

/-- 'laws.FnTower': WHATEVER THE INPUT: true; the input reads as it did. -/
def fnTowerSpec : ChangeSpec := { name := "fnTower", fn := fun _ => fun
  | [d] => { results := [.lit (.bool true)], args := [d] }
  | _ => none }
def fnTowerRow : OpenClaim := { program := "ytfpkijoamgohcaa", sum := "4cf05f41cec4174428641484f57013ceea3f03158c7be0bc9703059ffb5c9d64", func := "loop.example/finiterings/laws.FnTower", spec := "fnTower", unfollowed := true, recurses := true, apart := false }
def FnTowerSaid : Prop := fnTowerRow.holds Try.pinned (OpenSpec.ofChange fnTowerSpec)

/-- ITS FALSE NEIGHBOUR: 'it returns false'. Refute it at one input. -/
def fnTowerWrong : ChangeSpec := { name := "fnTower", fn := fun _ => fun
  | [d] => { results := [.lit (.bool false)], args := [d] }
  | _ => none }
def FnTowerWrongFalsely : Prop := fnTowerRow.holds Try.pinned (OpenSpec.ofChange fnTowerWrong)

/-- 'laws.FnCoefficients': WHATEVER THE INPUT: true; the input reads as it did. -/
def fnCoefficientsSpec : ChangeSpec := { name := "fnCoefficients", fn := fun _ => fun
  | [d] => { results := [.lit (.bool true)], args := [d] }
  | _ => none }
def fnCoefficientsRow : OpenClaim := { program := "ytfpkijoamgohcaa", sum := "4cf05f41cec4174428641484f57013ceea3f03158c7be0bc9703059ffb5c9d64", func := "loop.example/finiterings/laws.FnCoefficients", spec := "fnCoefficients", unfollowed := true, recurses := true, apart := false }
def FnCoefficientsSaid : Prop := fnCoefficientsRow.holds Try.pinned (OpenSpec.ofChange fnCoefficientsSpec)

/-- ITS FALSE NEIGHBOUR: 'it returns false'. Refute it at one input. -/
def fnCoefficientsWrong : ChangeSpec := { name := "fnCoefficients", fn := fun _ => fun
  | [d] => { results := [.lit (.bool false)], args := [d] }
  | _ => none }
def FnCoefficientsWrongFalsely : Prop := fnCoefficientsRow.holds Try.pinned (OpenSpec.ofChange fnCoefficientsWrong)

/-- 'laws.FnMake': WHATEVER THE INPUT: true; the input reads as it did. -/
def fnMakeSpec : ChangeSpec := { name := "fnMake", fn := fun _ => fun
  | [d1, d2] => { results := [.lit (.bool true)], args := [d1, d2] }
  | _ => none }
def fnMakeRow : OpenClaim := { program := "ytfpkijoamgohcaa", sum := "4cf05f41cec4174428641484f57013ceea3f03158c7be0bc9703059ffb5c9d64", func := "loop.example/finiterings/laws.FnMake", spec := "fnMake", unfollowed := true, recurses := true, apart := false }
def FnMakeSaid : Prop := fnMakeRow.holds Try.pinned (OpenSpec.ofChange fnMakeSpec)

/-- ITS FALSE NEIGHBOUR: 'it returns false'. Refute it at one input. -/
def fnMakeWrong : ChangeSpec := { name := "fnMake", fn := fun _ => fun
  | [d1, d2] => { results := [.lit (.bool false)], args := [d1, d2] }
  | _ => none }
def FnMakeWrongFalsely : Prop := fnMakeRow.holds Try.pinned (OpenSpec.ofChange fnMakeWrong)

/- THE SECOND FORM. 'bulk': how many values and letters a reading holds, each counted each time it is reached (what is shared counts as often as it is met; a slice's spare places count too). A statement '..UptoSaid' is the law's where the arguments, and the package variables that the reading takes, are together of bulk at most 1048576: NARROWER than '..Said'. Prove '..Said' where nothing that the law and all that it calls make is longer than what came in: it says more and counts as full. Else prove '..UptoSaid'. A law counts once. -/
mutual
def uptoBulk {H : Type} : DataW H → Nat
  | .lit (.string bytes) => bytes.length + 1
  | .lit _ => 1
  | .nil => 1
  | .ptr d => uptoBulk d + 1
  | .slice elems spare => uptoBulkAll elems + uptoBulkAll spare + 1
  | .agg parts => uptoBulkAll parts + 1
  | .iface _ d => uptoBulk d + 1
  | .map entries => uptoBulkEntries entries + 1
  | .held _ => 1
def uptoBulkAll {H : Type} : List (DataW H) → Nat
  | [] => 0
  | d :: r => uptoBulk d + uptoBulkAll r
def uptoBulkEntries {H : Type} : List (Lit × DataW H) → Nat
  | [] => 0
  | x :: r => uptoBulkEntry x + uptoBulkEntries r
def uptoBulkEntry {H : Type} : Lit × DataW H → Nat
  | (.string bytes, d) => bytes.length + uptoBulk d + 1
  | (_, d) => uptoBulk d + 1
 end
def uptoSmall : (H : Type) → List (DataW H) → Bool := fun _ ds => decide (uptoBulkAll ds ≤ 1048576)
def OpenSpec.upto (s : _root_.Go.ChangeSpec) : _root_.Go.OpenSpec := { _root_.Go.OpenSpec.ofChange s with cond := some uptoSmall }

/-- 'laws.FnPush', WHERE WHAT IT READS IS OF BULK AT MOST 1048576: true; the input reads as it did. -/
def fnPushUptoRow : OpenClaim := { program := "ytfpkijoamgohcaa", sum := "4cf05f41cec4174428641484f57013ceea3f03158c7be0bc9703059ffb5c9d64", func := "loop.example/finiterings/laws.FnPush", spec := "fnPush", unfollowed := true, recurses := true, apart := false, narrowed := true }
def FnPushUptoSaid : Prop := fnPushUptoRow.holds Try.pinned (OpenSpec.upto fnPushSpec)

/-- 'laws.FnIdealOf', WHERE WHAT IT READS IS OF BULK AT MOST 1048576: true; the input reads as it did. -/
def fnIdealOfUptoRow : OpenClaim := { program := "ytfpkijoamgohcaa", sum := "4cf05f41cec4174428641484f57013ceea3f03158c7be0bc9703059ffb5c9d64", func := "loop.example/finiterings/laws.FnIdealOf", spec := "fnIdealOf", unfollowed := true, recurses := true, apart := false, narrowed := true }
def FnIdealOfUptoSaid : Prop := fnIdealOfUptoRow.holds Try.pinned (OpenSpec.upto fnIdealOfSpec)

/-- 'laws.FnAssociates', WHERE WHAT IT READS IS OF BULK AT MOST 1048576: true; the input reads as it did. -/
def fnAssociatesUptoRow : OpenClaim := { program := "ytfpkijoamgohcaa", sum := "4cf05f41cec4174428641484f57013ceea3f03158c7be0bc9703059ffb5c9d64", func := "loop.example/finiterings/laws.FnAssociates", spec := "fnAssociates", unfollowed := true, recurses := true, apart := false, narrowed := true }
def FnAssociatesUptoSaid : Prop := fnAssociatesUptoRow.holds Try.pinned (OpenSpec.upto fnAssociatesSpec)

/-- 'laws.FnExactTowerRing', WHERE WHAT IT READS IS OF BULK AT MOST 1048576: true; the input reads as it did. -/
def fnExactTowerRingUptoRow : OpenClaim := { program := "ytfpkijoamgohcaa", sum := "4cf05f41cec4174428641484f57013ceea3f03158c7be0bc9703059ffb5c9d64", func := "loop.example/finiterings/laws.FnExactTowerRing", spec := "fnExactTowerRing", unfollowed := true, recurses := true, apart := false, narrowed := true }
def FnExactTowerRingUptoSaid : Prop := fnExactTowerRingUptoRow.holds Try.pinned (OpenSpec.upto fnExactTowerRingSpec)

/-- 'laws.FnExactMakeRing', WHERE WHAT IT READS IS OF BULK AT MOST 1048576: true; the input reads as it did. -/
def fnExactMakeRingUptoRow : OpenClaim := { program := "ytfpkijoamgohcaa", sum := "4cf05f41cec4174428641484f57013ceea3f03158c7be0bc9703059ffb5c9d64", func := "loop.example/finiterings/laws.FnExactMakeRing", spec := "fnExactMakeRing", unfollowed := true, recurses := true, apart := false, narrowed := true }
def FnExactMakeRingUptoSaid : Prop := fnExactMakeRingUptoRow.holds Try.pinned (OpenSpec.upto fnExactMakeRingSpec)

/-- 'laws.FnRingText', WHERE WHAT IT READS IS OF BULK AT MOST 1048576: true; the input reads as it did. -/
def fnRingTextUptoRow : OpenClaim := { program := "ytfpkijoamgohcaa", sum := "4cf05f41cec4174428641484f57013ceea3f03158c7be0bc9703059ffb5c9d64", func := "loop.example/finiterings/laws.FnRingText", spec := "fnRingText", inPlace := ["internal/bytealg.IndexByteString"], apart := false, narrowed := true }
def FnRingTextUptoSaid : Prop := fnRingTextUptoRow.holds Try.pinned (OpenSpec.upto fnRingTextSpec)

/-- 'laws.FnTower', WHERE WHAT IT READS IS OF BULK AT MOST 1048576: true; the input reads as it did. -/
def fnTowerUptoRow : OpenClaim := { program := "ytfpkijoamgohcaa", sum := "4cf05f41cec4174428641484f57013ceea3f03158c7be0bc9703059ffb5c9d64", func := "loop.example/finiterings/laws.FnTower", spec := "fnTower", unfollowed := true, recurses := true, apart := false, narrowed := true }
def FnTowerUptoSaid : Prop := fnTowerUptoRow.holds Try.pinned (OpenSpec.upto fnTowerSpec)

/-- 'laws.FnCoefficients', WHERE WHAT IT READS IS OF BULK AT MOST 1048576: true; the input reads as it did. -/
def fnCoefficientsUptoRow : OpenClaim := { program := "ytfpkijoamgohcaa", sum := "4cf05f41cec4174428641484f57013ceea3f03158c7be0bc9703059ffb5c9d64", func := "loop.example/finiterings/laws.FnCoefficients", spec := "fnCoefficients", unfollowed := true, recurses := true, apart := false, narrowed := true }
def FnCoefficientsUptoSaid : Prop := fnCoefficientsUptoRow.holds Try.pinned (OpenSpec.upto fnCoefficientsSpec)

/-- 'laws.FnMake', WHERE WHAT IT READS IS OF BULK AT MOST 1048576: true; the input reads as it did. -/
def fnMakeUptoRow : OpenClaim := { program := "ytfpkijoamgohcaa", sum := "4cf05f41cec4174428641484f57013ceea3f03158c7be0bc9703059ffb5c9d64", func := "loop.example/finiterings/laws.FnMake", spec := "fnMake", unfollowed := true, recurses := true, apart := false, narrowed := true }
def FnMakeUptoSaid : Prop := fnMakeUptoRow.holds Try.pinned (OpenSpec.upto fnMakeSpec)

end Rows
end Go.Proofs.Ytfpkijoamgohcaa
