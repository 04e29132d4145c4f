/-
  No cell of these rows narrows 'for every input' (looked for: loops, veiled, ifaces, maps, wideKeys, modest, calm, conditions, laid).
  DERIVED. THE GIVEN ROWS OF THIS SEAT. 12 by the template 'for every input the law returns true; each argument reads behind the call as it read before'; 0 by the template 'total and deterministic' (their statements: YtimcjhngljldkaaTotals.lean).
  GIVEN WITH THE SEED: the statements are not yours to turn. If you find one false, say at which input.
  Laid BY PROGRAM, IN A SANDBOX (cutbox-rows.mjs): the forced cells as the released guide's own fill.sh prints them over the translation a1eaf7a13caf3b99… (all of the seat's roots in one cut). By AI agents, Wed Nov 11 2026. No macro, syntax, notation, axiom, sorry.
-/
import Derived.Test.YtimcjhngljldkaaChecked
import GoSem.Claim
import GoSem.ClaimJoined
import GoSem.ClaimMapViews
import Derived.JoinedTies
import Derived.KernelRfl
namespace Go.Proofs.Ytimcjhngljldkaa
/- THE CELL 'sum', in the pinned program and in every row, IS THE sha256 OF THE DUMP (.gsa) THAT YtimcjhngljldkaaProg.lean LOADS. Nothing in Lean hashes anything: it is a label: what it is worth is what the hold of that sum in a sandbox is worth. -/
noncomputable def Try.pinned : Pinned := { name := "ytimcjhngljldkaa", sum := "a1eaf7a13caf3b99ffc6654e191e85e8997015692ff773edcc4ae22cf85a6a7f", checked := Try.checked }
namespace Rows
def none {H : Type} : Left H := { results := [], args := [] }

/-- 'laws.FnExactIdealOf': WHATEVER THE INPUT: true; the input reads as it did. -/
def fnExactIdealOfSpec : ChangeSpec := { name := "fnExactIdealOf", fn := fun _ => fun
  | [d1, d2] => { results := [.lit (.bool true)], args := [d1, d2] }
  | _ => none }
def fnExactIdealOfRow : OpenClaim := { program := "ytimcjhngljldkaa", sum := "a1eaf7a13caf3b99ffc6654e191e85e8997015692ff773edcc4ae22cf85a6a7f", func := "loop.example/finiterings/laws.FnExactIdealOf", spec := "fnExactIdealOf", unfollowed := true, recurses := true, plainKeys := false, apart := false }
def FnExactIdealOfSaid : Prop := fnExactIdealOfRow.holds Try.pinned (OpenSpec.ofChange fnExactIdealOfSpec)

/-- ITS FALSE NEIGHBOUR: 'it returns false'. Refute it at one input. -/
def fnExactIdealOfWrong : ChangeSpec := { name := "fnExactIdealOf", fn := fun _ => fun
  | [d1, d2] => { results := [.lit (.bool false)], args := [d1, d2] }
  | _ => none }
def FnExactIdealOfWrongFalsely : Prop := fnExactIdealOfRow.holds Try.pinned (OpenSpec.ofChange fnExactIdealOfWrong)

/-- 'laws.FnExactIsIdeal': WHATEVER THE INPUT: true; the input reads as it did. -/
def fnExactIsIdealSpec : ChangeSpec := { name := "fnExactIsIdeal", fn := fun _ => fun
  | [d1, d2] => { results := [.lit (.bool true)], args := [d1, d2] }
  | _ => none }
def fnExactIsIdealRow : OpenClaim := { program := "ytimcjhngljldkaa", sum := "a1eaf7a13caf3b99ffc6654e191e85e8997015692ff773edcc4ae22cf85a6a7f", func := "loop.example/finiterings/laws.FnExactIsIdeal", spec := "fnExactIsIdeal", unfollowed := true, recurses := true, plainKeys := false, apart := false }
def FnExactIsIdealSaid : Prop := fnExactIsIdealRow.holds Try.pinned (OpenSpec.ofChange fnExactIsIdealSpec)

/-- ITS FALSE NEIGHBOUR: 'it returns false'. Refute it at one input. -/
def fnExactIsIdealWrong : ChangeSpec := { name := "fnExactIsIdeal", fn := fun _ => fun
  | [d1, d2] => { results := [.lit (.bool false)], args := [d1, d2] }
  | _ => none }
def FnExactIsIdealWrongFalsely : Prop := fnExactIsIdealRow.holds Try.pinned (OpenSpec.ofChange fnExactIsIdealWrong)

/-- 'laws.FnExactSumIdeal': WHATEVER THE INPUT: true; the input reads as it did. -/
def fnExactSumIdealSpec : ChangeSpec := { name := "fnExactSumIdeal", fn := fun _ => fun
  | [d1, d2, d3] => { results := [.lit (.bool true)], args := [d1, d2, d3] }
  | _ => none }
def fnExactSumIdealRow : OpenClaim := { program := "ytimcjhngljldkaa", sum := "a1eaf7a13caf3b99ffc6654e191e85e8997015692ff773edcc4ae22cf85a6a7f", func := "loop.example/finiterings/laws.FnExactSumIdeal", spec := "fnExactSumIdeal", unfollowed := true, recurses := true, plainKeys := false, apart := false }
def FnExactSumIdealSaid : Prop := fnExactSumIdealRow.holds Try.pinned (OpenSpec.ofChange fnExactSumIdealSpec)

/-- ITS FALSE NEIGHBOUR: 'it returns false'. Refute it at one input. -/
def fnExactSumIdealWrong : ChangeSpec := { name := "fnExactSumIdeal", fn := fun _ => fun
  | [d1, d2, d3] => { results := [.lit (.bool false)], args := [d1, d2, d3] }
  | _ => none }
def FnExactSumIdealWrongFalsely : Prop := fnExactSumIdealRow.holds Try.pinned (OpenSpec.ofChange fnExactSumIdealWrong)

/-- 'laws.FnExactProductIdeal': WHATEVER THE INPUT: true; the input reads as it did. -/
def fnExactProductIdealSpec : ChangeSpec := { name := "fnExactProductIdeal", fn := fun _ => fun
  | [d1, d2, d3] => { results := [.lit (.bool true)], args := [d1, d2, d3] }
  | _ => none }
def fnExactProductIdealRow : OpenClaim := { program := "ytimcjhngljldkaa", sum := "a1eaf7a13caf3b99ffc6654e191e85e8997015692ff773edcc4ae22cf85a6a7f", func := "loop.example/finiterings/laws.FnExactProductIdeal", spec := "fnExactProductIdeal", unfollowed := true, recurses := true, plainKeys := false, apart := false }
def FnExactProductIdealSaid : Prop := fnExactProductIdealRow.holds Try.pinned (OpenSpec.ofChange fnExactProductIdealSpec)

/-- ITS FALSE NEIGHBOUR: 'it returns false'. Refute it at one input. -/
def fnExactProductIdealWrong : ChangeSpec := { name := "fnExactProductIdeal", fn := fun _ => fun
  | [d1, d2, d3] => { results := [.lit (.bool false)], args := [d1, d2, d3] }
  | _ => none }
def FnExactProductIdealWrongFalsely : Prop := fnExactProductIdealRow.holds Try.pinned (OpenSpec.ofChange fnExactProductIdealWrong)

/-- 'laws.FnExactMeetIdeal': WHATEVER THE INPUT: true; the input reads as it did. -/
def fnExactMeetIdealSpec : ChangeSpec := { name := "fnExactMeetIdeal", fn := fun _ => fun
  | [d1, d2, d3] => { results := [.lit (.bool true)], args := [d1, d2, d3] }
  | _ => none }
def fnExactMeetIdealRow : OpenClaim := { program := "ytimcjhngljldkaa", sum := "a1eaf7a13caf3b99ffc6654e191e85e8997015692ff773edcc4ae22cf85a6a7f", func := "loop.example/finiterings/laws.FnExactMeetIdeal", spec := "fnExactMeetIdeal", unfollowed := true, recurses := true, plainKeys := false, apart := false }
def FnExactMeetIdealSaid : Prop := fnExactMeetIdealRow.holds Try.pinned (OpenSpec.ofChange fnExactMeetIdealSpec)

/-- ITS FALSE NEIGHBOUR: 'it returns false'. Refute it at one input. -/
def fnExactMeetIdealWrong : ChangeSpec := { name := "fnExactMeetIdeal", fn := fun _ => fun
  | [d1, d2, d3] => { results := [.lit (.bool false)], args := [d1, d2, d3] }
  | _ => none }
def FnExactMeetIdealWrongFalsely : Prop := fnExactMeetIdealRow.holds Try.pinned (OpenSpec.ofChange fnExactMeetIdealWrong)

/-- 'laws.FnExactColonIdeal': WHATEVER THE INPUT: true; the input reads as it did. -/
def fnExactColonIdealSpec : ChangeSpec := { name := "fnExactColonIdeal", fn := fun _ => fun
  | [d1, d2, d3] => { results := [.lit (.bool true)], args := [d1, d2, d3] }
  | _ => none }
def fnExactColonIdealRow : OpenClaim := { program := "ytimcjhngljldkaa", sum := "a1eaf7a13caf3b99ffc6654e191e85e8997015692ff773edcc4ae22cf85a6a7f", func := "loop.example/finiterings/laws.FnExactColonIdeal", spec := "fnExactColonIdeal", unfollowed := true, recurses := true, plainKeys := false, apart := false }
def FnExactColonIdealSaid : Prop := fnExactColonIdealRow.holds Try.pinned (OpenSpec.ofChange fnExactColonIdealSpec)

/-- ITS FALSE NEIGHBOUR: 'it returns false'. Refute it at one input. -/
def fnExactColonIdealWrong : ChangeSpec := { name := "fnExactColonIdeal", fn := fun _ => fun
  | [d1, d2, d3] => { results := [.lit (.bool false)], args := [d1, d2, d3] }
  | _ => none }
def FnExactColonIdealWrongFalsely : Prop := fnExactColonIdealRow.holds Try.pinned (OpenSpec.ofChange fnExactColonIdealWrong)

/-- 'laws.FnExactRadicalOf': WHATEVER THE INPUT: true; the input reads as it did. -/
def fnExactRadicalOfSpec : ChangeSpec := { name := "fnExactRadicalOf", fn := fun _ => fun
  | [d1, d2] => { results := [.lit (.bool true)], args := [d1, d2] }
  | _ => none }
def fnExactRadicalOfRow : OpenClaim := { program := "ytimcjhngljldkaa", sum := "a1eaf7a13caf3b99ffc6654e191e85e8997015692ff773edcc4ae22cf85a6a7f", func := "loop.example/finiterings/laws.FnExactRadicalOf", spec := "fnExactRadicalOf", unfollowed := true, recurses := true, plainKeys := false, apart := false }
def FnExactRadicalOfSaid : Prop := fnExactRadicalOfRow.holds Try.pinned (OpenSpec.ofChange fnExactRadicalOfSpec)

/-- ITS FALSE NEIGHBOUR: 'it returns false'. Refute it at one input. -/
def fnExactRadicalOfWrong : ChangeSpec := { name := "fnExactRadicalOf", fn := fun _ => fun
  | [d1, d2] => { results := [.lit (.bool false)], args := [d1, d2] }
  | _ => none }
def FnExactRadicalOfWrongFalsely : Prop := fnExactRadicalOfRow.holds Try.pinned (OpenSpec.ofChange fnExactRadicalOfWrong)

/-- 'laws.FnExactIsPrimeIdeal': WHATEVER THE INPUT: true; the input reads as it did. -/
def fnExactIsPrimeIdealSpec : ChangeSpec := { name := "fnExactIsPrimeIdeal", fn := fun _ => fun
  | [d1, d2] => { results := [.lit (.bool true)], args := [d1, d2] }
  | _ => none }
def fnExactIsPrimeIdealRow : OpenClaim := { program := "ytimcjhngljldkaa", sum := "a1eaf7a13caf3b99ffc6654e191e85e8997015692ff773edcc4ae22cf85a6a7f", func := "loop.example/finiterings/laws.FnExactIsPrimeIdeal", spec := "fnExactIsPrimeIdeal", unfollowed := true, recurses := true, plainKeys := false, apart := false }
def FnExactIsPrimeIdealSaid : Prop := fnExactIsPrimeIdealRow.holds Try.pinned (OpenSpec.ofChange fnExactIsPrimeIdealSpec)

/-- ITS FALSE NEIGHBOUR: 'it returns false'. Refute it at one input. -/
def fnExactIsPrimeIdealWrong : ChangeSpec := { name := "fnExactIsPrimeIdeal", fn := fun _ => fun
  | [d1, d2] => { results := [.lit (.bool false)], args := [d1, d2] }
  | _ => none }
def FnExactIsPrimeIdealWrongFalsely : Prop := fnExactIsPrimeIdealRow.holds Try.pinned (OpenSpec.ofChange fnExactIsPrimeIdealWrong)

/-- 'laws.FnExactIsMaximalIdeal': WHATEVER THE INPUT: true; the input reads as it did. -/
def fnExactIsMaximalIdealSpec : ChangeSpec := { name := "fnExactIsMaximalIdeal", fn := fun _ => fun
  | [d1, d2] => { results := [.lit (.bool true)], args := [d1, d2] }
  | _ => none }
def fnExactIsMaximalIdealRow : OpenClaim := { program := "ytimcjhngljldkaa", sum := "a1eaf7a13caf3b99ffc6654e191e85e8997015692ff773edcc4ae22cf85a6a7f", func := "loop.example/finiterings/laws.FnExactIsMaximalIdeal", spec := "fnExactIsMaximalIdeal", unfollowed := true, recurses := true, plainKeys := false, apart := false }
def FnExactIsMaximalIdealSaid : Prop := fnExactIsMaximalIdealRow.holds Try.pinned (OpenSpec.ofChange fnExactIsMaximalIdealSpec)

/-- ITS FALSE NEIGHBOUR: 'it returns false'. Refute it at one input. -/
def fnExactIsMaximalIdealWrong : ChangeSpec := { name := "fnExactIsMaximalIdeal", fn := fun _ => fun
  | [d1, d2] => { results := [.lit (.bool false)], args := [d1, d2] }
  | _ => none }
def FnExactIsMaximalIdealWrongFalsely : Prop := fnExactIsMaximalIdealRow.holds Try.pinned (OpenSpec.ofChange fnExactIsMaximalIdealWrong)

/-- 'laws.FnExactGeneratorOf': WHATEVER THE INPUT: true; the input reads as it did. -/
def fnExactGeneratorOfSpec : ChangeSpec := { name := "fnExactGeneratorOf", fn := fun _ => fun
  | [d1, d2] => { results := [.lit (.bool true)], args := [d1, d2] }
  | _ => none }
def fnExactGeneratorOfRow : OpenClaim := { program := "ytimcjhngljldkaa", sum := "a1eaf7a13caf3b99ffc6654e191e85e8997015692ff773edcc4ae22cf85a6a7f", func := "loop.example/finiterings/laws.FnExactGeneratorOf", spec := "fnExactGeneratorOf", unfollowed := true, recurses := true, plainKeys := false, apart := false }
def FnExactGeneratorOfSaid : Prop := fnExactGeneratorOfRow.holds Try.pinned (OpenSpec.ofChange fnExactGeneratorOfSpec)

/-- ITS FALSE NEIGHBOUR: 'it returns false'. Refute it at one input. -/
def fnExactGeneratorOfWrong : ChangeSpec := { name := "fnExactGeneratorOf", fn := fun _ => fun
  | [d1, d2] => { results := [.lit (.bool false)], args := [d1, d2] }
  | _ => none }
def FnExactGeneratorOfWrongFalsely : Prop := fnExactGeneratorOfRow.holds Try.pinned (OpenSpec.ofChange fnExactGeneratorOfWrong)

/-- 'laws.FnExactAllIdeals': WHATEVER THE INPUT: true; the input reads as it did. -/
def fnExactAllIdealsSpec : ChangeSpec := { name := "fnExactAllIdeals", fn := fun _ => fun
  | [d] => { results := [.lit (.bool true)], args := [d] }
  | _ => none }
def fnExactAllIdealsRow : OpenClaim := { program := "ytimcjhngljldkaa", sum := "a1eaf7a13caf3b99ffc6654e191e85e8997015692ff773edcc4ae22cf85a6a7f", func := "loop.example/finiterings/laws.FnExactAllIdeals", spec := "fnExactAllIdeals", unfollowed := true, recurses := true, plainKeys := false, apart := false }
def FnExactAllIdealsSaid : Prop := fnExactAllIdealsRow.holds Try.pinned (OpenSpec.ofChange fnExactAllIdealsSpec)

/-- ITS FALSE NEIGHBOUR: 'it returns false'. Refute it at one input. -/
def fnExactAllIdealsWrong : ChangeSpec := { name := "fnExactAllIdeals", fn := fun _ => fun
  | [d] => { results := [.lit (.bool false)], args := [d] }
  | _ => none }
def FnExactAllIdealsWrongFalsely : Prop := fnExactAllIdealsRow.holds Try.pinned (OpenSpec.ofChange fnExactAllIdealsWrong)

/-- 'laws.FnExactTowerRing': WHATEVER THE INPUT: true; the input reads as it did. -/
def fnExactTowerRingSpec : ChangeSpec := { name := "fnExactTowerRing", fn := fun _ => fun
  | [d1, d2] => { results := [.lit (.bool true)], args := [d1, d2] }
  | _ => none }
def fnExactTowerRingRow : OpenClaim := { program := "ytimcjhngljldkaa", sum := "a1eaf7a13caf3b99ffc6654e191e85e8997015692ff773edcc4ae22cf85a6a7f", func := "loop.example/finiterings/laws.FnExactTowerRing", spec := "fnExactTowerRing", unfollowed := true, recurses := true, plainKeys := false, apart := false }
def FnExactTowerRingSaid : Prop := fnExactTowerRingRow.holds Try.pinned (OpenSpec.ofChange fnExactTowerRingSpec)

/-- ITS FALSE NEIGHBOUR: 'it returns false'. Refute it at one input. -/
def fnExactTowerRingWrong : ChangeSpec := { name := "fnExactTowerRing", fn := fun _ => fun
  | [d1, d2] => { results := [.lit (.bool false)], args := [d1, d2] }
  | _ => none }
def FnExactTowerRingWrongFalsely : Prop := fnExactTowerRingRow.holds Try.pinned (OpenSpec.ofChange fnExactTowerRingWrong)

/- THE SECOND FORM. 'bulk': how many values and letters a reading holds, each counted each time it is reached (what is shared counts as often as it is met; a slice's spare places count too). A statement '..UptoSaid' is the law's where the arguments, and the package variables that the reading takes, are together of bulk at most 1048576: NARROWER than '..Said'. Prove '..Said' where nothing that the law and all that it calls make is longer than what came in: it says more and counts as full. Else prove '..UptoSaid'. A law counts once. -/
mutual
def uptoBulk {H : Type} : DataW H → Nat
  | .lit (.string bytes) => bytes.length + 1
  | .lit _ => 1
  | .nil => 1
  | .ptr d => uptoBulk d + 1
  | .slice elems spare => uptoBulkAll elems + uptoBulkAll spare + 1
  | .agg parts => uptoBulkAll parts + 1
  | .iface _ d => uptoBulk d + 1
  | .map entries => uptoBulkEntries entries + 1
  | .held _ => 1
def uptoBulkAll {H : Type} : List (DataW H) → Nat
  | [] => 0
  | d :: r => uptoBulk d + uptoBulkAll r
def uptoBulkEntries {H : Type} : List (Lit × DataW H) → Nat
  | [] => 0
  | x :: r => uptoBulkEntry x + uptoBulkEntries r
def uptoBulkEntry {H : Type} : Lit × DataW H → Nat
  | (.string bytes, d) => bytes.length + uptoBulk d + 1
  | (_, d) => uptoBulk d + 1
 end
def uptoSmall : (H : Type) → List (DataW H) → Bool := fun _ ds => decide (uptoBulkAll ds ≤ 1048576)
def OpenSpec.upto (s : _root_.Go.ChangeSpec) : _root_.Go.OpenSpec := { _root_.Go.OpenSpec.ofChange s with cond := some uptoSmall }

/-- 'laws.FnExactIdealOf', WHERE WHAT IT READS IS OF BULK AT MOST 1048576: true; the input reads as it did. -/
def fnExactIdealOfUptoRow : OpenClaim := { program := "ytimcjhngljldkaa", sum := "a1eaf7a13caf3b99ffc6654e191e85e8997015692ff773edcc4ae22cf85a6a7f", func := "loop.example/finiterings/laws.FnExactIdealOf", spec := "fnExactIdealOf", unfollowed := true, recurses := true, plainKeys := false, apart := false, narrowed := true }
def FnExactIdealOfUptoSaid : Prop := fnExactIdealOfUptoRow.holds Try.pinned (OpenSpec.upto fnExactIdealOfSpec)

/-- 'laws.FnExactIsIdeal', WHERE WHAT IT READS IS OF BULK AT MOST 1048576: true; the input reads as it did. -/
def fnExactIsIdealUptoRow : OpenClaim := { program := "ytimcjhngljldkaa", sum := "a1eaf7a13caf3b99ffc6654e191e85e8997015692ff773edcc4ae22cf85a6a7f", func := "loop.example/finiterings/laws.FnExactIsIdeal", spec := "fnExactIsIdeal", unfollowed := true, recurses := true, plainKeys := false, apart := false, narrowed := true }
def FnExactIsIdealUptoSaid : Prop := fnExactIsIdealUptoRow.holds Try.pinned (OpenSpec.upto fnExactIsIdealSpec)

/-- 'laws.FnExactSumIdeal', WHERE WHAT IT READS IS OF BULK AT MOST 1048576: true; the input reads as it did. -/
def fnExactSumIdealUptoRow : OpenClaim := { program := "ytimcjhngljldkaa", sum := "a1eaf7a13caf3b99ffc6654e191e85e8997015692ff773edcc4ae22cf85a6a7f", func := "loop.example/finiterings/laws.FnExactSumIdeal", spec := "fnExactSumIdeal", unfollowed := true, recurses := true, plainKeys := false, apart := false, narrowed := true }
def FnExactSumIdealUptoSaid : Prop := fnExactSumIdealUptoRow.holds Try.pinned (OpenSpec.upto fnExactSumIdealSpec)

/-- 'laws.FnExactProductIdeal', WHERE WHAT IT READS IS OF BULK AT MOST 1048576: true; the input reads as it did. -/
def fnExactProductIdealUptoRow : OpenClaim := { program := "ytimcjhngljldkaa", sum := "a1eaf7a13caf3b99ffc6654e191e85e8997015692ff773edcc4ae22cf85a6a7f", func := "loop.example/finiterings/laws.FnExactProductIdeal", spec := "fnExactProductIdeal", unfollowed := true, recurses := true, plainKeys := false, apart := false, narrowed := true }
def FnExactProductIdealUptoSaid : Prop := fnExactProductIdealUptoRow.holds Try.pinned (OpenSpec.upto fnExactProductIdealSpec)

/-- 'laws.FnExactMeetIdeal', WHERE WHAT IT READS IS OF BULK AT MOST 1048576: true; the input reads as it did. -/
def fnExactMeetIdealUptoRow : OpenClaim := { program := "ytimcjhngljldkaa", sum := "a1eaf7a13caf3b99ffc6654e191e85e8997015692ff773edcc4ae22cf85a6a7f", func := "loop.example/finiterings/laws.FnExactMeetIdeal", spec := "fnExactMeetIdeal", unfollowed := true, recurses := true, plainKeys := false, apart := false, narrowed := true }
def FnExactMeetIdealUptoSaid : Prop := fnExactMeetIdealUptoRow.holds Try.pinned (OpenSpec.upto fnExactMeetIdealSpec)

/-- 'laws.FnExactColonIdeal', WHERE WHAT IT READS IS OF BULK AT MOST 1048576: true; the input reads as it did. -/
def fnExactColonIdealUptoRow : OpenClaim := { program := "ytimcjhngljldkaa", sum := "a1eaf7a13caf3b99ffc6654e191e85e8997015692ff773edcc4ae22cf85a6a7f", func := "loop.example/finiterings/laws.FnExactColonIdeal", spec := "fnExactColonIdeal", unfollowed := true, recurses := true, plainKeys := false, apart := false, narrowed := true }
def FnExactColonIdealUptoSaid : Prop := fnExactColonIdealUptoRow.holds Try.pinned (OpenSpec.upto fnExactColonIdealSpec)

/-- 'laws.FnExactRadicalOf', WHERE WHAT IT READS IS OF BULK AT MOST 1048576: true; the input reads as it did. -/
def fnExactRadicalOfUptoRow : OpenClaim := { program := "ytimcjhngljldkaa", sum := "a1eaf7a13caf3b99ffc6654e191e85e8997015692ff773edcc4ae22cf85a6a7f", func := "loop.example/finiterings/laws.FnExactRadicalOf", spec := "fnExactRadicalOf", unfollowed := true, recurses := true, plainKeys := false, apart := false, narrowed := true }
def FnExactRadicalOfUptoSaid : Prop := fnExactRadicalOfUptoRow.holds Try.pinned (OpenSpec.upto fnExactRadicalOfSpec)

/-- 'laws.FnExactIsPrimeIdeal', WHERE WHAT IT READS IS OF BULK AT MOST 1048576: true; the input reads as it did. -/
def fnExactIsPrimeIdealUptoRow : OpenClaim := { program := "ytimcjhngljldkaa", sum := "a1eaf7a13caf3b99ffc6654e191e85e8997015692ff773edcc4ae22cf85a6a7f", func := "loop.example/finiterings/laws.FnExactIsPrimeIdeal", spec := "fnExactIsPrimeIdeal", unfollowed := true, recurses := true, plainKeys := false, apart := false, narrowed := true }
def FnExactIsPrimeIdealUptoSaid : Prop := fnExactIsPrimeIdealUptoRow.holds Try.pinned (OpenSpec.upto fnExactIsPrimeIdealSpec)

/-- 'laws.FnExactIsMaximalIdeal', WHERE WHAT IT READS IS OF BULK AT MOST 1048576: true; the input reads as it did. -/
def fnExactIsMaximalIdealUptoRow : OpenClaim := { program := "ytimcjhngljldkaa", sum := "a1eaf7a13caf3b99ffc6654e191e85e8997015692ff773edcc4ae22cf85a6a7f", func := "loop.example/finiterings/laws.FnExactIsMaximalIdeal", spec := "fnExactIsMaximalIdeal", unfollowed := true, recurses := true, plainKeys := false, apart := false, narrowed := true }
def FnExactIsMaximalIdealUptoSaid : Prop := fnExactIsMaximalIdealUptoRow.holds Try.pinned (OpenSpec.upto fnExactIsMaximalIdealSpec)

/-- 'laws.FnExactGeneratorOf', WHERE WHAT IT READS IS OF BULK AT MOST 1048576: true; the input reads as it did. -/
def fnExactGeneratorOfUptoRow : OpenClaim := { program := "ytimcjhngljldkaa", sum := "a1eaf7a13caf3b99ffc6654e191e85e8997015692ff773edcc4ae22cf85a6a7f", func := "loop.example/finiterings/laws.FnExactGeneratorOf", spec := "fnExactGeneratorOf", unfollowed := true, recurses := true, plainKeys := false, apart := false, narrowed := true }
def FnExactGeneratorOfUptoSaid : Prop := fnExactGeneratorOfUptoRow.holds Try.pinned (OpenSpec.upto fnExactGeneratorOfSpec)

/-- 'laws.FnExactAllIdeals', WHERE WHAT IT READS IS OF BULK AT MOST 1048576: true; the input reads as it did. -/
def fnExactAllIdealsUptoRow : OpenClaim := { program := "ytimcjhngljldkaa", sum := "a1eaf7a13caf3b99ffc6654e191e85e8997015692ff773edcc4ae22cf85a6a7f", func := "loop.example/finiterings/laws.FnExactAllIdeals", spec := "fnExactAllIdeals", unfollowed := true, recurses := true, plainKeys := false, apart := false, narrowed := true }
def FnExactAllIdealsUptoSaid : Prop := fnExactAllIdealsUptoRow.holds Try.pinned (OpenSpec.upto fnExactAllIdealsSpec)

/-- 'laws.FnExactTowerRing', WHERE WHAT IT READS IS OF BULK AT MOST 1048576: true; the input reads as it did. -/
def fnExactTowerRingUptoRow : OpenClaim := { program := "ytimcjhngljldkaa", sum := "a1eaf7a13caf3b99ffc6654e191e85e8997015692ff773edcc4ae22cf85a6a7f", func := "loop.example/finiterings/laws.FnExactTowerRing", spec := "fnExactTowerRing", unfollowed := true, recurses := true, plainKeys := false, apart := false, narrowed := true }
def FnExactTowerRingUptoSaid : Prop := fnExactTowerRingUptoRow.holds Try.pinned (OpenSpec.upto fnExactTowerRingSpec)

end Rows
end Go.Proofs.Ytimcjhngljldkaa
