/-
  No cell of these rows narrows 'for every input' (looked for: loops, veiled, ifaces, maps, wideKeys, modest, calm, conditions, laid).
  DERIVED. THE GIVEN ROWS OF THIS SEAT. 10 by the template 'for every input the law returns true; each argument reads behind the call as it read before'; 0 by the template 'total and deterministic' (their statements: YtihjnjcfiipcoaaTotals.lean).
  GIVEN WITH THE SEED: the statements are not yours to turn. If you find one false, say at which input.
  Laid BY PROGRAM, IN A SANDBOX (cutbox-rows.mjs): the forced cells as the released guide's own fill.sh prints them over the translation 18d752b250b57776… (all of the seat's roots in one cut). By AI agents, Wed Nov 11 2026. No macro, syntax, notation, axiom, sorry.
-/
import Derived.Test.YtihjnjcfiipcoaaChecked
import GoSem.Claim
import GoSem.ClaimJoined
import GoSem.ClaimMapViews
import Derived.JoinedTies
import Derived.KernelRfl
namespace Go.Proofs.Ytihjnjcfiipcoaa
/- THE CELL 'sum', in the pinned program and in every row, IS THE sha256 OF THE DUMP (.gsa) THAT YtihjnjcfiipcoaaProg.lean LOADS. Nothing in Lean hashes anything: it is a label: what it is worth is what the hold of that sum in a sandbox is worth. -/
noncomputable def Try.pinned : Pinned := { name := "ytihjnjcfiipcoaa", sum := "18d752b250b577766c2e4192ae78794ec229e0a622e0cd201b21e6f4c51ba888", checked := Try.checked }
namespace Rows
def none {H : Type} : Left H := { results := [], args := [] }

/-- 'laws.FnRingText': WHATEVER THE INPUT: true; the input reads as it did. -/
def fnRingTextSpec : ChangeSpec := { name := "fnRingText", fn := fun _ => fun
  | [d1, d2] => { results := [.lit (.bool true)], args := [d1, d2] }
  | _ => none }
def fnRingTextRow : OpenClaim := { program := "ytihjnjcfiipcoaa", sum := "18d752b250b577766c2e4192ae78794ec229e0a622e0cd201b21e6f4c51ba888", func := "loop.example/finiterings/laws.FnRingText", spec := "fnRingText", inPlace := ["internal/bytealg.IndexByteString"], apart := false }
def FnRingTextSaid : Prop := fnRingTextRow.holds Try.pinned (OpenSpec.ofChange fnRingTextSpec)

/-- ITS FALSE NEIGHBOUR: 'it returns false'. Refute it at one input. -/
def fnRingTextWrong : ChangeSpec := { name := "fnRingText", fn := fun _ => fun
  | [d1, d2] => { results := [.lit (.bool false)], args := [d1, d2] }
  | _ => none }
def FnRingTextWrongFalsely : Prop := fnRingTextRow.holds Try.pinned (OpenSpec.ofChange fnRingTextWrong)

/-- 'laws.FnIntegers': WHATEVER THE INPUT: true; the input reads as it did. -/
def fnIntegersSpec : ChangeSpec := { name := "fnIntegers", fn := fun _ => fun
  | [d] => { results := [.lit (.bool true)], args := [d] }
  | _ => none }
def fnIntegersRow : OpenClaim := { program := "ytihjnjcfiipcoaa", sum := "18d752b250b577766c2e4192ae78794ec229e0a622e0cd201b21e6f4c51ba888", func := "loop.example/finiterings/laws.FnIntegers", spec := "fnIntegers", unfollowed := true, recurses := true, apart := false }
def FnIntegersSaid : Prop := fnIntegersRow.holds Try.pinned (OpenSpec.ofChange fnIntegersSpec)

/-- ITS FALSE NEIGHBOUR: 'it returns false'. Refute it at one input. -/
def fnIntegersWrong : ChangeSpec := { name := "fnIntegers", fn := fun _ => fun
  | [d] => { results := [.lit (.bool false)], args := [d] }
  | _ => none }
def FnIntegersWrongFalsely : Prop := fnIntegersRow.holds Try.pinned (OpenSpec.ofChange fnIntegersWrong)

/-- 'laws.FnProduct': WHATEVER THE INPUT: true; the input reads as it did. -/
def fnProductSpec : ChangeSpec := { name := "fnProduct", fn := fun _ => fun
  | [d] => { results := [.lit (.bool true)], args := [d] }
  | _ => none }
def fnProductRow : OpenClaim := { program := "ytihjnjcfiipcoaa", sum := "18d752b250b577766c2e4192ae78794ec229e0a622e0cd201b21e6f4c51ba888", func := "loop.example/finiterings/laws.FnProduct", spec := "fnProduct", unfollowed := true, recurses := true, apart := false }
def FnProductSaid : Prop := fnProductRow.holds Try.pinned (OpenSpec.ofChange fnProductSpec)

/-- ITS FALSE NEIGHBOUR: 'it returns false'. Refute it at one input. -/
def fnProductWrong : ChangeSpec := { name := "fnProduct", fn := fun _ => fun
  | [d] => { results := [.lit (.bool false)], args := [d] }
  | _ => none }
def FnProductWrongFalsely : Prop := fnProductRow.holds Try.pinned (OpenSpec.ofChange fnProductWrong)

/-- 'laws.FnParts': WHATEVER THE INPUT: true; the input reads as it did. -/
def fnPartsSpec : ChangeSpec := { name := "fnParts", fn := fun _ => fun
  | [d1, d2] => { results := [.lit (.bool true)], args := [d1, d2] }
  | _ => none }
def fnPartsRow : OpenClaim := { program := "ytihjnjcfiipcoaa", sum := "18d752b250b577766c2e4192ae78794ec229e0a622e0cd201b21e6f4c51ba888", func := "loop.example/finiterings/laws.FnParts", spec := "fnParts", apart := false }
def FnPartsSaid : Prop := fnPartsRow.holds Try.pinned (OpenSpec.ofChange fnPartsSpec)

/-- ITS FALSE NEIGHBOUR: 'it returns false'. Refute it at one input. -/
def fnPartsWrong : ChangeSpec := { name := "fnParts", fn := fun _ => fun
  | [d1, d2] => { results := [.lit (.bool false)], args := [d1, d2] }
  | _ => none }
def FnPartsWrongFalsely : Prop := fnPartsRow.holds Try.pinned (OpenSpec.ofChange fnPartsWrong)

/-- 'laws.FnTower': WHATEVER THE INPUT: true; the input reads as it did. -/
def fnTowerSpec : ChangeSpec := { name := "fnTower", fn := fun _ => fun
  | [d] => { results := [.lit (.bool true)], args := [d] }
  | _ => none }
def fnTowerRow : OpenClaim := { program := "ytihjnjcfiipcoaa", sum := "18d752b250b577766c2e4192ae78794ec229e0a622e0cd201b21e6f4c51ba888", func := "loop.example/finiterings/laws.FnTower", spec := "fnTower", unfollowed := true, recurses := true, apart := false }
def FnTowerSaid : Prop := fnTowerRow.holds Try.pinned (OpenSpec.ofChange fnTowerSpec)

/-- ITS FALSE NEIGHBOUR: 'it returns false'. Refute it at one input. -/
def fnTowerWrong : ChangeSpec := { name := "fnTower", fn := fun _ => fun
  | [d] => { results := [.lit (.bool false)], args := [d] }
  | _ => none }
def FnTowerWrongFalsely : Prop := fnTowerRow.holds Try.pinned (OpenSpec.ofChange fnTowerWrong)

/-- 'laws.FnCoefficients': WHATEVER THE INPUT: true; the input reads as it did. -/
def fnCoefficientsSpec : ChangeSpec := { name := "fnCoefficients", fn := fun _ => fun
  | [d] => { results := [.lit (.bool true)], args := [d] }
  | _ => none }
def fnCoefficientsRow : OpenClaim := { program := "ytihjnjcfiipcoaa", sum := "18d752b250b577766c2e4192ae78794ec229e0a622e0cd201b21e6f4c51ba888", func := "loop.example/finiterings/laws.FnCoefficients", spec := "fnCoefficients", unfollowed := true, recurses := true, apart := false }
def FnCoefficientsSaid : Prop := fnCoefficientsRow.holds Try.pinned (OpenSpec.ofChange fnCoefficientsSpec)

/-- ITS FALSE NEIGHBOUR: 'it returns false'. Refute it at one input. -/
def fnCoefficientsWrong : ChangeSpec := { name := "fnCoefficients", fn := fun _ => fun
  | [d] => { results := [.lit (.bool false)], args := [d] }
  | _ => none }
def FnCoefficientsWrongFalsely : Prop := fnCoefficientsRow.holds Try.pinned (OpenSpec.ofChange fnCoefficientsWrong)

/-- 'laws.FnRename': WHATEVER THE INPUT: true; the input reads as it did. -/
def fnRenameSpec : ChangeSpec := { name := "fnRename", fn := fun _ => fun
  | [d] => { results := [.lit (.bool true)], args := [d] }
  | _ => none }
def fnRenameRow : OpenClaim := { program := "ytihjnjcfiipcoaa", sum := "18d752b250b577766c2e4192ae78794ec229e0a622e0cd201b21e6f4c51ba888", func := "loop.example/finiterings/laws.FnRename", spec := "fnRename", unfollowed := true, recurses := true, apart := false }
def FnRenameSaid : Prop := fnRenameRow.holds Try.pinned (OpenSpec.ofChange fnRenameSpec)

/-- ITS FALSE NEIGHBOUR: 'it returns false'. Refute it at one input. -/
def fnRenameWrong : ChangeSpec := { name := "fnRename", fn := fun _ => fun
  | [d] => { results := [.lit (.bool false)], args := [d] }
  | _ => none }
def FnRenameWrongFalsely : Prop := fnRenameRow.holds Try.pinned (OpenSpec.ofChange fnRenameWrong)

/-- 'laws.FnMake': WHATEVER THE INPUT: true; the input reads as it did. -/
def fnMakeSpec : ChangeSpec := { name := "fnMake", fn := fun _ => fun
  | [d1, d2] => { results := [.lit (.bool true)], args := [d1, d2] }
  | _ => none }
def fnMakeRow : OpenClaim := { program := "ytihjnjcfiipcoaa", sum := "18d752b250b577766c2e4192ae78794ec229e0a622e0cd201b21e6f4c51ba888", func := "loop.example/finiterings/laws.FnMake", spec := "fnMake", unfollowed := true, recurses := true, apart := false }
def FnMakeSaid : Prop := fnMakeRow.holds Try.pinned (OpenSpec.ofChange fnMakeSpec)

/-- ITS FALSE NEIGHBOUR: 'it returns false'. Refute it at one input. -/
def fnMakeWrong : ChangeSpec := { name := "fnMake", fn := fun _ => fun
  | [d1, d2] => { results := [.lit (.bool false)], args := [d1, d2] }
  | _ => none }
def FnMakeWrongFalsely : Prop := fnMakeRow.holds Try.pinned (OpenSpec.ofChange fnMakeWrong)

/-- 'laws.FnExactTowerRing': WHATEVER THE INPUT: true; the input reads as it did. -/
def fnExactTowerRingSpec : ChangeSpec := { name := "fnExactTowerRing", fn := fun _ => fun
  | [d1, d2] => { results := [.lit (.bool true)], args := [d1, d2] }
  | _ => none }
def fnExactTowerRingRow : OpenClaim := { program := "ytihjnjcfiipcoaa", sum := "18d752b250b577766c2e4192ae78794ec229e0a622e0cd201b21e6f4c51ba888", func := "loop.example/finiterings/laws.FnExactTowerRing", spec := "fnExactTowerRing", unfollowed := true, recurses := true, apart := false }
def FnExactTowerRingSaid : Prop := fnExactTowerRingRow.holds Try.pinned (OpenSpec.ofChange fnExactTowerRingSpec)

/-- ITS FALSE NEIGHBOUR: 'it returns false'. Refute it at one input. -/
def fnExactTowerRingWrong : ChangeSpec := { name := "fnExactTowerRing", fn := fun _ => fun
  | [d1, d2] => { results := [.lit (.bool false)], args := [d1, d2] }
  | _ => none }
def FnExactTowerRingWrongFalsely : Prop := fnExactTowerRingRow.holds Try.pinned (OpenSpec.ofChange fnExactTowerRingWrong)

/-- 'laws.FnExactMakeRing': WHATEVER THE INPUT: true; the input reads as it did. -/
def fnExactMakeRingSpec : ChangeSpec := { name := "fnExactMakeRing", fn := fun _ => fun
  | [d] => { results := [.lit (.bool true)], args := [d] }
  | _ => none }
def fnExactMakeRingRow : OpenClaim := { program := "ytihjnjcfiipcoaa", sum := "18d752b250b577766c2e4192ae78794ec229e0a622e0cd201b21e6f4c51ba888", func := "loop.example/finiterings/laws.FnExactMakeRing", spec := "fnExactMakeRing", unfollowed := true, recurses := true, apart := false }
def FnExactMakeRingSaid : Prop := fnExactMakeRingRow.holds Try.pinned (OpenSpec.ofChange fnExactMakeRingSpec)

/-- ITS FALSE NEIGHBOUR: 'it returns false'. Refute it at one input. -/
def fnExactMakeRingWrong : ChangeSpec := { name := "fnExactMakeRing", fn := fun _ => fun
  | [d] => { results := [.lit (.bool false)], args := [d] }
  | _ => none }
def FnExactMakeRingWrongFalsely : Prop := fnExactMakeRingRow.holds Try.pinned (OpenSpec.ofChange fnExactMakeRingWrong)

/- THE SECOND FORM. 'bulk': how many values and letters a reading holds, each counted each time it is reached (what is shared counts as often as it is met; a slice's spare places count too). A statement '..UptoSaid' is the law's where the arguments, and the package variables that the reading takes, are together of bulk at most 1048576: NARROWER than '..Said'. Prove '..Said' where nothing that the law and all that it calls make is longer than what came in: it says more and counts as full. Else prove '..UptoSaid'. A law counts once. -/
mutual
def uptoBulk {H : Type} : DataW H → Nat
  | .lit (.string bytes) => bytes.length + 1
  | .lit _ => 1
  | .nil => 1
  | .ptr d => uptoBulk d + 1
  | .slice elems spare => uptoBulkAll elems + uptoBulkAll spare + 1
  | .agg parts => uptoBulkAll parts + 1
  | .iface _ d => uptoBulk d + 1
  | .map entries => uptoBulkEntries entries + 1
  | .held _ => 1
def uptoBulkAll {H : Type} : List (DataW H) → Nat
  | [] => 0
  | d :: r => uptoBulk d + uptoBulkAll r
def uptoBulkEntries {H : Type} : List (Lit × DataW H) → Nat
  | [] => 0
  | x :: r => uptoBulkEntry x + uptoBulkEntries r
def uptoBulkEntry {H : Type} : Lit × DataW H → Nat
  | (.string bytes, d) => bytes.length + uptoBulk d + 1
  | (_, d) => uptoBulk d + 1
 end
def uptoSmall : (H : Type) → List (DataW H) → Bool := fun _ ds => decide (uptoBulkAll ds ≤ 1048576)
def OpenSpec.upto (s : _root_.Go.ChangeSpec) : _root_.Go.OpenSpec := { _root_.Go.OpenSpec.ofChange s with cond := some uptoSmall }

/-- 'laws.FnRingText', WHERE WHAT IT READS IS OF BULK AT MOST 1048576: true; the input reads as it did. -/
def fnRingTextUptoRow : OpenClaim := { program := "ytihjnjcfiipcoaa", sum := "18d752b250b577766c2e4192ae78794ec229e0a622e0cd201b21e6f4c51ba888", func := "loop.example/finiterings/laws.FnRingText", spec := "fnRingText", inPlace := ["internal/bytealg.IndexByteString"], apart := false, narrowed := true }
def FnRingTextUptoSaid : Prop := fnRingTextUptoRow.holds Try.pinned (OpenSpec.upto fnRingTextSpec)

/-- 'laws.FnIntegers', WHERE WHAT IT READS IS OF BULK AT MOST 1048576: true; the input reads as it did. -/
def fnIntegersUptoRow : OpenClaim := { program := "ytihjnjcfiipcoaa", sum := "18d752b250b577766c2e4192ae78794ec229e0a622e0cd201b21e6f4c51ba888", func := "loop.example/finiterings/laws.FnIntegers", spec := "fnIntegers", unfollowed := true, recurses := true, apart := false, narrowed := true }
def FnIntegersUptoSaid : Prop := fnIntegersUptoRow.holds Try.pinned (OpenSpec.upto fnIntegersSpec)

/-- 'laws.FnProduct', WHERE WHAT IT READS IS OF BULK AT MOST 1048576: true; the input reads as it did. -/
def fnProductUptoRow : OpenClaim := { program := "ytihjnjcfiipcoaa", sum := "18d752b250b577766c2e4192ae78794ec229e0a622e0cd201b21e6f4c51ba888", func := "loop.example/finiterings/laws.FnProduct", spec := "fnProduct", unfollowed := true, recurses := true, apart := false, narrowed := true }
def FnProductUptoSaid : Prop := fnProductUptoRow.holds Try.pinned (OpenSpec.upto fnProductSpec)

/-- 'laws.FnParts', WHERE WHAT IT READS IS OF BULK AT MOST 1048576: true; the input reads as it did. -/
def fnPartsUptoRow : OpenClaim := { program := "ytihjnjcfiipcoaa", sum := "18d752b250b577766c2e4192ae78794ec229e0a622e0cd201b21e6f4c51ba888", func := "loop.example/finiterings/laws.FnParts", spec := "fnParts", apart := false, narrowed := true }
def FnPartsUptoSaid : Prop := fnPartsUptoRow.holds Try.pinned (OpenSpec.upto fnPartsSpec)

/-- 'laws.FnTower', WHERE WHAT IT READS IS OF BULK AT MOST 1048576: true; the input reads as it did. -/
def fnTowerUptoRow : OpenClaim := { program := "ytihjnjcfiipcoaa", sum := "18d752b250b577766c2e4192ae78794ec229e0a622e0cd201b21e6f4c51ba888", func := "loop.example/finiterings/laws.FnTower", spec := "fnTower", unfollowed := true, recurses := true, apart := false, narrowed := true }
def FnTowerUptoSaid : Prop := fnTowerUptoRow.holds Try.pinned (OpenSpec.upto fnTowerSpec)

/-- 'laws.FnCoefficients', WHERE WHAT IT READS IS OF BULK AT MOST 1048576: true; the input reads as it did. -/
def fnCoefficientsUptoRow : OpenClaim := { program := "ytihjnjcfiipcoaa", sum := "18d752b250b577766c2e4192ae78794ec229e0a622e0cd201b21e6f4c51ba888", func := "loop.example/finiterings/laws.FnCoefficients", spec := "fnCoefficients", unfollowed := true, recurses := true, apart := false, narrowed := true }
def FnCoefficientsUptoSaid : Prop := fnCoefficientsUptoRow.holds Try.pinned (OpenSpec.upto fnCoefficientsSpec)

/-- 'laws.FnRename', WHERE WHAT IT READS IS OF BULK AT MOST 1048576: true; the input reads as it did. -/
def fnRenameUptoRow : OpenClaim := { program := "ytihjnjcfiipcoaa", sum := "18d752b250b577766c2e4192ae78794ec229e0a622e0cd201b21e6f4c51ba888", func := "loop.example/finiterings/laws.FnRename", spec := "fnRename", unfollowed := true, recurses := true, apart := false, narrowed := true }
def FnRenameUptoSaid : Prop := fnRenameUptoRow.holds Try.pinned (OpenSpec.upto fnRenameSpec)

/-- 'laws.FnMake', WHERE WHAT IT READS IS OF BULK AT MOST 1048576: true; the input reads as it did. -/
def fnMakeUptoRow : OpenClaim := { program := "ytihjnjcfiipcoaa", sum := "18d752b250b577766c2e4192ae78794ec229e0a622e0cd201b21e6f4c51ba888", func := "loop.example/finiterings/laws.FnMake", spec := "fnMake", unfollowed := true, recurses := true, apart := false, narrowed := true }
def FnMakeUptoSaid : Prop := fnMakeUptoRow.holds Try.pinned (OpenSpec.upto fnMakeSpec)

/-- 'laws.FnExactTowerRing', WHERE WHAT IT READS IS OF BULK AT MOST 1048576: true; the input reads as it did. -/
def fnExactTowerRingUptoRow : OpenClaim := { program := "ytihjnjcfiipcoaa", sum := "18d752b250b577766c2e4192ae78794ec229e0a622e0cd201b21e6f4c51ba888", func := "loop.example/finiterings/laws.FnExactTowerRing", spec := "fnExactTowerRing", unfollowed := true, recurses := true, apart := false, narrowed := true }
def FnExactTowerRingUptoSaid : Prop := fnExactTowerRingUptoRow.holds Try.pinned (OpenSpec.upto fnExactTowerRingSpec)

/-- 'laws.FnExactMakeRing', WHERE WHAT IT READS IS OF BULK AT MOST 1048576: true; the input reads as it did. -/
def fnExactMakeRingUptoRow : OpenClaim := { program := "ytihjnjcfiipcoaa", sum := "18d752b250b577766c2e4192ae78794ec229e0a622e0cd201b21e6f4c51ba888", func := "loop.example/finiterings/laws.FnExactMakeRing", spec := "fnExactMakeRing", unfollowed := true, recurses := true, apart := false, narrowed := true }
def FnExactMakeRingUptoSaid : Prop := fnExactMakeRingUptoRow.holds Try.pinned (OpenSpec.upto fnExactMakeRingSpec)

end Rows
end Go.Proofs.Ytihjnjcfiipcoaa
