/-
  No cell of these rows narrows 'for every input' (looked for: loops, veiled, ifaces, maps, wideKeys, modest, calm, conditions, laid).
  DERIVED. THE GIVEN ROWS OF THIS SEAT. 12 by the template 'for every input the law returns true; each argument reads behind the call as it read before'; 0 by the template 'total and deterministic' (their statements: YteoodcgppidomaaTotals.lean).
  GIVEN WITH THE SEED: the statements are not yours to turn. If you find one false, say at which input.
  Laid BY PROGRAM, IN A SANDBOX (cutbox-rows.mjs): the forced cells as the released guide's own fill.sh prints them over the translation c043f66197155412… (all of the seat's roots in one cut). By AI agents, Wed Nov 11 2026. No macro, syntax, notation, axiom, sorry.
-/
import Derived.Test.YteoodcgppidomaaChecked
import GoSem.Claim
import GoSem.ClaimJoined
import GoSem.ClaimMapViews
import Derived.JoinedTies
import Derived.KernelRfl
namespace Go.Proofs.Yteoodcgppidomaa
/- THE CELL 'sum', in the pinned program and in every row, IS THE sha256 OF THE DUMP (.gsa) THAT YteoodcgppidomaaProg.lean LOADS. Nothing in Lean hashes anything: it is a label: what it is worth is what the hold of that sum in a sandbox is worth. -/
noncomputable def Try.pinned : Pinned := { name := "yteoodcgppidomaa", sum := "c043f661971554121e3db22dfae0dbb83b192eaf59f043fec02e231795c16ab9", checked := Try.checked }
namespace Rows
def none {H : Type} : Left H := { results := [], args := [] }

/-- 'laws.FnExactQuotientRing': WHATEVER THE INPUT: true; the input reads as it did. -/
def fnExactQuotientRingSpec : ChangeSpec := { name := "fnExactQuotientRing", fn := fun _ => fun
  | [d1, d2] => { results := [.lit (.bool true)], args := [d1, d2] }
  | _ => none }
def fnExactQuotientRingRow : OpenClaim := { program := "yteoodcgppidomaa", sum := "c043f661971554121e3db22dfae0dbb83b192eaf59f043fec02e231795c16ab9", func := "loop.example/finiterings/laws.FnExactQuotientRing", spec := "fnExactQuotientRing", unfollowed := true, recurses := true, plainKeys := false, apart := false }
def FnExactQuotientRingSaid : Prop := fnExactQuotientRingRow.holds Try.pinned (OpenSpec.ofChange fnExactQuotientRingSpec)

/-- ITS FALSE NEIGHBOUR: 'it returns false'. Refute it at one input. -/
def fnExactQuotientRingWrong : ChangeSpec := { name := "fnExactQuotientRing", fn := fun _ => fun
  | [d1, d2] => { results := [.lit (.bool false)], args := [d1, d2] }
  | _ => none }
def FnExactQuotientRingWrongFalsely : Prop := fnExactQuotientRingRow.holds Try.pinned (OpenSpec.ofChange fnExactQuotientRingWrong)

/-- 'laws.FnExactClassesOf': WHATEVER THE INPUT: true; the input reads as it did. -/
def fnExactClassesOfSpec : ChangeSpec := { name := "fnExactClassesOf", fn := fun _ => fun
  | [d1, d2] => { results := [.lit (.bool true)], args := [d1, d2] }
  | _ => none }
def fnExactClassesOfRow : OpenClaim := { program := "yteoodcgppidomaa", sum := "c043f661971554121e3db22dfae0dbb83b192eaf59f043fec02e231795c16ab9", func := "loop.example/finiterings/laws.FnExactClassesOf", spec := "fnExactClassesOf", unfollowed := true, recurses := true, plainKeys := false, apart := false }
def FnExactClassesOfSaid : Prop := fnExactClassesOfRow.holds Try.pinned (OpenSpec.ofChange fnExactClassesOfSpec)

/-- ITS FALSE NEIGHBOUR: 'it returns false'. Refute it at one input. -/
def fnExactClassesOfWrong : ChangeSpec := { name := "fnExactClassesOf", fn := fun _ => fun
  | [d1, d2] => { results := [.lit (.bool false)], args := [d1, d2] }
  | _ => none }
def FnExactClassesOfWrongFalsely : Prop := fnExactClassesOfRow.holds Try.pinned (OpenSpec.ofChange fnExactClassesOfWrong)

/-- 'laws.FnExactLiftIdeal': WHATEVER THE INPUT: true; the input reads as it did. -/
def fnExactLiftIdealSpec : ChangeSpec := { name := "fnExactLiftIdeal", fn := fun _ => fun
  | [d1, d2, d3] => { results := [.lit (.bool true)], args := [d1, d2, d3] }
  | _ => none }
def fnExactLiftIdealRow : OpenClaim := { program := "yteoodcgppidomaa", sum := "c043f661971554121e3db22dfae0dbb83b192eaf59f043fec02e231795c16ab9", func := "loop.example/finiterings/laws.FnExactLiftIdeal", spec := "fnExactLiftIdeal", unfollowed := true, recurses := true, plainKeys := false, apart := false }
def FnExactLiftIdealSaid : Prop := fnExactLiftIdealRow.holds Try.pinned (OpenSpec.ofChange fnExactLiftIdealSpec)

/-- ITS FALSE NEIGHBOUR: 'it returns false'. Refute it at one input. -/
def fnExactLiftIdealWrong : ChangeSpec := { name := "fnExactLiftIdeal", fn := fun _ => fun
  | [d1, d2, d3] => { results := [.lit (.bool false)], args := [d1, d2, d3] }
  | _ => none }
def FnExactLiftIdealWrongFalsely : Prop := fnExactLiftIdealRow.holds Try.pinned (OpenSpec.ofChange fnExactLiftIdealWrong)

/-- 'laws.FnExactPushIdeal': WHATEVER THE INPUT: true; the input reads as it did. -/
def fnExactPushIdealSpec : ChangeSpec := { name := "fnExactPushIdeal", fn := fun _ => fun
  | [d1, d2, d3] => { results := [.lit (.bool true)], args := [d1, d2, d3] }
  | _ => none }
def fnExactPushIdealRow : OpenClaim := { program := "yteoodcgppidomaa", sum := "c043f661971554121e3db22dfae0dbb83b192eaf59f043fec02e231795c16ab9", func := "loop.example/finiterings/laws.FnExactPushIdeal", spec := "fnExactPushIdeal", unfollowed := true, recurses := true, plainKeys := false, apart := false }
def FnExactPushIdealSaid : Prop := fnExactPushIdealRow.holds Try.pinned (OpenSpec.ofChange fnExactPushIdealSpec)

/-- ITS FALSE NEIGHBOUR: 'it returns false'. Refute it at one input. -/
def fnExactPushIdealWrong : ChangeSpec := { name := "fnExactPushIdeal", fn := fun _ => fun
  | [d1, d2, d3] => { results := [.lit (.bool false)], args := [d1, d2, d3] }
  | _ => none }
def FnExactPushIdealWrongFalsely : Prop := fnExactPushIdealRow.holds Try.pinned (OpenSpec.ofChange fnExactPushIdealWrong)

/-- 'laws.FnExactReducedRing': WHATEVER THE INPUT: true; the input reads as it did. -/
def fnExactReducedRingSpec : ChangeSpec := { name := "fnExactReducedRing", fn := fun _ => fun
  | [d] => { results := [.lit (.bool true)], args := [d] }
  | _ => none }
def fnExactReducedRingRow : OpenClaim := { program := "yteoodcgppidomaa", sum := "c043f661971554121e3db22dfae0dbb83b192eaf59f043fec02e231795c16ab9", func := "loop.example/finiterings/laws.FnExactReducedRing", spec := "fnExactReducedRing", unfollowed := true, recurses := true, plainKeys := false, apart := false }
def FnExactReducedRingSaid : Prop := fnExactReducedRingRow.holds Try.pinned (OpenSpec.ofChange fnExactReducedRingSpec)

/-- ITS FALSE NEIGHBOUR: 'it returns false'. Refute it at one input. -/
def fnExactReducedRingWrong : ChangeSpec := { name := "fnExactReducedRing", fn := fun _ => fun
  | [d] => { results := [.lit (.bool false)], args := [d] }
  | _ => none }
def FnExactReducedRingWrongFalsely : Prop := fnExactReducedRingRow.holds Try.pinned (OpenSpec.ofChange fnExactReducedRingWrong)

/-- 'laws.FnExactResidueSizes': WHATEVER THE INPUT: true; the input reads as it did. -/
def fnExactResidueSizesSpec : ChangeSpec := { name := "fnExactResidueSizes", fn := fun _ => fun
  | [d] => { results := [.lit (.bool true)], args := [d] }
  | _ => none }
def fnExactResidueSizesRow : OpenClaim := { program := "yteoodcgppidomaa", sum := "c043f661971554121e3db22dfae0dbb83b192eaf59f043fec02e231795c16ab9", func := "loop.example/finiterings/laws.FnExactResidueSizes", spec := "fnExactResidueSizes", unfollowed := true, recurses := true, plainKeys := false, apart := false }
def FnExactResidueSizesSaid : Prop := fnExactResidueSizesRow.holds Try.pinned (OpenSpec.ofChange fnExactResidueSizesSpec)

/-- ITS FALSE NEIGHBOUR: 'it returns false'. Refute it at one input. -/
def fnExactResidueSizesWrong : ChangeSpec := { name := "fnExactResidueSizes", fn := fun _ => fun
  | [d] => { results := [.lit (.bool false)], args := [d] }
  | _ => none }
def FnExactResidueSizesWrongFalsely : Prop := fnExactResidueSizesRow.holds Try.pinned (OpenSpec.ofChange fnExactResidueSizesWrong)

/-- 'laws.FnExactSumIdeal': WHATEVER THE INPUT: true; the input reads as it did. -/
def fnExactSumIdealSpec : ChangeSpec := { name := "fnExactSumIdeal", fn := fun _ => fun
  | [d1, d2, d3] => { results := [.lit (.bool true)], args := [d1, d2, d3] }
  | _ => none }
def fnExactSumIdealRow : OpenClaim := { program := "yteoodcgppidomaa", sum := "c043f661971554121e3db22dfae0dbb83b192eaf59f043fec02e231795c16ab9", func := "loop.example/finiterings/laws.FnExactSumIdeal", spec := "fnExactSumIdeal", unfollowed := true, recurses := true, plainKeys := false, apart := false }
def FnExactSumIdealSaid : Prop := fnExactSumIdealRow.holds Try.pinned (OpenSpec.ofChange fnExactSumIdealSpec)

/-- ITS FALSE NEIGHBOUR: 'it returns false'. Refute it at one input. -/
def fnExactSumIdealWrong : ChangeSpec := { name := "fnExactSumIdeal", fn := fun _ => fun
  | [d1, d2, d3] => { results := [.lit (.bool false)], args := [d1, d2, d3] }
  | _ => none }
def FnExactSumIdealWrongFalsely : Prop := fnExactSumIdealRow.holds Try.pinned (OpenSpec.ofChange fnExactSumIdealWrong)

/-- 'laws.FnExactIsMaximalIdeal': WHATEVER THE INPUT: true; the input reads as it did. -/
def fnExactIsMaximalIdealSpec : ChangeSpec := { name := "fnExactIsMaximalIdeal", fn := fun _ => fun
  | [d1, d2] => { results := [.lit (.bool true)], args := [d1, d2] }
  | _ => none }
def fnExactIsMaximalIdealRow : OpenClaim := { program := "yteoodcgppidomaa", sum := "c043f661971554121e3db22dfae0dbb83b192eaf59f043fec02e231795c16ab9", func := "loop.example/finiterings/laws.FnExactIsMaximalIdeal", spec := "fnExactIsMaximalIdeal", unfollowed := true, recurses := true, plainKeys := false, apart := false }
def FnExactIsMaximalIdealSaid : Prop := fnExactIsMaximalIdealRow.holds Try.pinned (OpenSpec.ofChange fnExactIsMaximalIdealSpec)

/-- ITS FALSE NEIGHBOUR: 'it returns false'. Refute it at one input. -/
def fnExactIsMaximalIdealWrong : ChangeSpec := { name := "fnExactIsMaximalIdeal", fn := fun _ => fun
  | [d1, d2] => { results := [.lit (.bool false)], args := [d1, d2] }
  | _ => none }
def FnExactIsMaximalIdealWrongFalsely : Prop := fnExactIsMaximalIdealRow.holds Try.pinned (OpenSpec.ofChange fnExactIsMaximalIdealWrong)

/-- 'laws.FnExactColonIdeal': WHATEVER THE INPUT: true; the input reads as it did. -/
def fnExactColonIdealSpec : ChangeSpec := { name := "fnExactColonIdeal", fn := fun _ => fun
  | [d1, d2, d3] => { results := [.lit (.bool true)], args := [d1, d2, d3] }
  | _ => none }
def fnExactColonIdealRow : OpenClaim := { program := "yteoodcgppidomaa", sum := "c043f661971554121e3db22dfae0dbb83b192eaf59f043fec02e231795c16ab9", func := "loop.example/finiterings/laws.FnExactColonIdeal", spec := "fnExactColonIdeal", unfollowed := true, recurses := true, plainKeys := false, apart := false }
def FnExactColonIdealSaid : Prop := fnExactColonIdealRow.holds Try.pinned (OpenSpec.ofChange fnExactColonIdealSpec)

/-- ITS FALSE NEIGHBOUR: 'it returns false'. Refute it at one input. -/
def fnExactColonIdealWrong : ChangeSpec := { name := "fnExactColonIdeal", fn := fun _ => fun
  | [d1, d2, d3] => { results := [.lit (.bool false)], args := [d1, d2, d3] }
  | _ => none }
def FnExactColonIdealWrongFalsely : Prop := fnExactColonIdealRow.holds Try.pinned (OpenSpec.ofChange fnExactColonIdealWrong)

/-- 'laws.FnExactAllIdeals': WHATEVER THE INPUT: true; the input reads as it did. -/
def fnExactAllIdealsSpec : ChangeSpec := { name := "fnExactAllIdeals", fn := fun _ => fun
  | [d] => { results := [.lit (.bool true)], args := [d] }
  | _ => none }
def fnExactAllIdealsRow : OpenClaim := { program := "yteoodcgppidomaa", sum := "c043f661971554121e3db22dfae0dbb83b192eaf59f043fec02e231795c16ab9", func := "loop.example/finiterings/laws.FnExactAllIdeals", spec := "fnExactAllIdeals", unfollowed := true, recurses := true, plainKeys := false, apart := false }
def FnExactAllIdealsSaid : Prop := fnExactAllIdealsRow.holds Try.pinned (OpenSpec.ofChange fnExactAllIdealsSpec)

/-- ITS FALSE NEIGHBOUR: 'it returns false'. Refute it at one input. -/
def fnExactAllIdealsWrong : ChangeSpec := { name := "fnExactAllIdeals", fn := fun _ => fun
  | [d] => { results := [.lit (.bool false)], args := [d] }
  | _ => none }
def FnExactAllIdealsWrongFalsely : Prop := fnExactAllIdealsRow.holds Try.pinned (OpenSpec.ofChange fnExactAllIdealsWrong)

/-- 'laws.FnExactAssociatesOf': WHATEVER THE INPUT: true; the input reads as it did. -/
def fnExactAssociatesOfSpec : ChangeSpec := { name := "fnExactAssociatesOf", fn := fun _ => fun
  | [d1, d2] => { results := [.lit (.bool true)], args := [d1, d2] }
  | _ => none }
def fnExactAssociatesOfRow : OpenClaim := { program := "yteoodcgppidomaa", sum := "c043f661971554121e3db22dfae0dbb83b192eaf59f043fec02e231795c16ab9", func := "loop.example/finiterings/laws.FnExactAssociatesOf", spec := "fnExactAssociatesOf", unfollowed := true, recurses := true, plainKeys := false, apart := false }
def FnExactAssociatesOfSaid : Prop := fnExactAssociatesOfRow.holds Try.pinned (OpenSpec.ofChange fnExactAssociatesOfSpec)

/-- ITS FALSE NEIGHBOUR: 'it returns false'. Refute it at one input. -/
def fnExactAssociatesOfWrong : ChangeSpec := { name := "fnExactAssociatesOf", fn := fun _ => fun
  | [d1, d2] => { results := [.lit (.bool false)], args := [d1, d2] }
  | _ => none }
def FnExactAssociatesOfWrongFalsely : Prop := fnExactAssociatesOfRow.holds Try.pinned (OpenSpec.ofChange fnExactAssociatesOfWrong)

/-- 'laws.FnUnits': WHATEVER THE INPUT: true; the input reads as it did. -/
def fnUnitsSpec : ChangeSpec := { name := "fnUnits", fn := fun _ => fun
  | [d] => { results := [.lit (.bool true)], args := [d] }
  | _ => none }
def fnUnitsRow : OpenClaim := { program := "yteoodcgppidomaa", sum := "c043f661971554121e3db22dfae0dbb83b192eaf59f043fec02e231795c16ab9", func := "loop.example/finiterings/laws.FnUnits", spec := "fnUnits", unfollowed := true, recurses := true, plainKeys := false, apart := false }
def FnUnitsSaid : Prop := fnUnitsRow.holds Try.pinned (OpenSpec.ofChange fnUnitsSpec)

/-- ITS FALSE NEIGHBOUR: 'it returns false'. Refute it at one input. -/
def fnUnitsWrong : ChangeSpec := { name := "fnUnits", fn := fun _ => fun
  | [d] => { results := [.lit (.bool false)], args := [d] }
  | _ => none }
def FnUnitsWrongFalsely : Prop := fnUnitsRow.holds Try.pinned (OpenSpec.ofChange fnUnitsWrong)

/- THE SECOND FORM. 'bulk': how many values and letters a reading holds, each counted each time it is reached (what is shared counts as often as it is met; a slice's spare places count too). A statement '..UptoSaid' is the law's where the arguments, and the package variables that the reading takes, are together of bulk at most 1048576: NARROWER than '..Said'. Prove '..Said' where nothing that the law and all that it calls make is longer than what came in: it says more and counts as full. Else prove '..UptoSaid'. A law counts once. -/
mutual
def uptoBulk {H : Type} : DataW H → Nat
  | .lit (.string bytes) => bytes.length + 1
  | .lit _ => 1
  | .nil => 1
  | .ptr d => uptoBulk d + 1
  | .slice elems spare => uptoBulkAll elems + uptoBulkAll spare + 1
  | .agg parts => uptoBulkAll parts + 1
  | .iface _ d => uptoBulk d + 1
  | .map entries => uptoBulkEntries entries + 1
  | .held _ => 1
def uptoBulkAll {H : Type} : List (DataW H) → Nat
  | [] => 0
  | d :: r => uptoBulk d + uptoBulkAll r
def uptoBulkEntries {H : Type} : List (Lit × DataW H) → Nat
  | [] => 0
  | x :: r => uptoBulkEntry x + uptoBulkEntries r
def uptoBulkEntry {H : Type} : Lit × DataW H → Nat
  | (.string bytes, d) => bytes.length + uptoBulk d + 1
  | (_, d) => uptoBulk d + 1
 end
def uptoSmall : (H : Type) → List (DataW H) → Bool := fun _ ds => decide (uptoBulkAll ds ≤ 1048576)
def OpenSpec.upto (s : _root_.Go.ChangeSpec) : _root_.Go.OpenSpec := { _root_.Go.OpenSpec.ofChange s with cond := some uptoSmall }

/-- 'laws.FnExactQuotientRing', WHERE WHAT IT READS IS OF BULK AT MOST 1048576: true; the input reads as it did. -/
def fnExactQuotientRingUptoRow : OpenClaim := { program := "yteoodcgppidomaa", sum := "c043f661971554121e3db22dfae0dbb83b192eaf59f043fec02e231795c16ab9", func := "loop.example/finiterings/laws.FnExactQuotientRing", spec := "fnExactQuotientRing", unfollowed := true, recurses := true, plainKeys := false, apart := false, narrowed := true }
def FnExactQuotientRingUptoSaid : Prop := fnExactQuotientRingUptoRow.holds Try.pinned (OpenSpec.upto fnExactQuotientRingSpec)

/-- 'laws.FnExactClassesOf', WHERE WHAT IT READS IS OF BULK AT MOST 1048576: true; the input reads as it did. -/
def fnExactClassesOfUptoRow : OpenClaim := { program := "yteoodcgppidomaa", sum := "c043f661971554121e3db22dfae0dbb83b192eaf59f043fec02e231795c16ab9", func := "loop.example/finiterings/laws.FnExactClassesOf", spec := "fnExactClassesOf", unfollowed := true, recurses := true, plainKeys := false, apart := false, narrowed := true }
def FnExactClassesOfUptoSaid : Prop := fnExactClassesOfUptoRow.holds Try.pinned (OpenSpec.upto fnExactClassesOfSpec)

/-- 'laws.FnExactLiftIdeal', WHERE WHAT IT READS IS OF BULK AT MOST 1048576: true; the input reads as it did. -/
def fnExactLiftIdealUptoRow : OpenClaim := { program := "yteoodcgppidomaa", sum := "c043f661971554121e3db22dfae0dbb83b192eaf59f043fec02e231795c16ab9", func := "loop.example/finiterings/laws.FnExactLiftIdeal", spec := "fnExactLiftIdeal", unfollowed := true, recurses := true, plainKeys := false, apart := false, narrowed := true }
def FnExactLiftIdealUptoSaid : Prop := fnExactLiftIdealUptoRow.holds Try.pinned (OpenSpec.upto fnExactLiftIdealSpec)

/-- 'laws.FnExactPushIdeal', WHERE WHAT IT READS IS OF BULK AT MOST 1048576: true; the input reads as it did. -/
def fnExactPushIdealUptoRow : OpenClaim := { program := "yteoodcgppidomaa", sum := "c043f661971554121e3db22dfae0dbb83b192eaf59f043fec02e231795c16ab9", func := "loop.example/finiterings/laws.FnExactPushIdeal", spec := "fnExactPushIdeal", unfollowed := true, recurses := true, plainKeys := false, apart := false, narrowed := true }
def FnExactPushIdealUptoSaid : Prop := fnExactPushIdealUptoRow.holds Try.pinned (OpenSpec.upto fnExactPushIdealSpec)

/-- 'laws.FnExactReducedRing', WHERE WHAT IT READS IS OF BULK AT MOST 1048576: true; the input reads as it did. -/
def fnExactReducedRingUptoRow : OpenClaim := { program := "yteoodcgppidomaa", sum := "c043f661971554121e3db22dfae0dbb83b192eaf59f043fec02e231795c16ab9", func := "loop.example/finiterings/laws.FnExactReducedRing", spec := "fnExactReducedRing", unfollowed := true, recurses := true, plainKeys := false, apart := false, narrowed := true }
def FnExactReducedRingUptoSaid : Prop := fnExactReducedRingUptoRow.holds Try.pinned (OpenSpec.upto fnExactReducedRingSpec)

/-- 'laws.FnExactResidueSizes', WHERE WHAT IT READS IS OF BULK AT MOST 1048576: true; the input reads as it did. -/
def fnExactResidueSizesUptoRow : OpenClaim := { program := "yteoodcgppidomaa", sum := "c043f661971554121e3db22dfae0dbb83b192eaf59f043fec02e231795c16ab9", func := "loop.example/finiterings/laws.FnExactResidueSizes", spec := "fnExactResidueSizes", unfollowed := true, recurses := true, plainKeys := false, apart := false, narrowed := true }
def FnExactResidueSizesUptoSaid : Prop := fnExactResidueSizesUptoRow.holds Try.pinned (OpenSpec.upto fnExactResidueSizesSpec)

/-- 'laws.FnExactSumIdeal', WHERE WHAT IT READS IS OF BULK AT MOST 1048576: true; the input reads as it did. -/
def fnExactSumIdealUptoRow : OpenClaim := { program := "yteoodcgppidomaa", sum := "c043f661971554121e3db22dfae0dbb83b192eaf59f043fec02e231795c16ab9", func := "loop.example/finiterings/laws.FnExactSumIdeal", spec := "fnExactSumIdeal", unfollowed := true, recurses := true, plainKeys := false, apart := false, narrowed := true }
def FnExactSumIdealUptoSaid : Prop := fnExactSumIdealUptoRow.holds Try.pinned (OpenSpec.upto fnExactSumIdealSpec)

/-- 'laws.FnExactIsMaximalIdeal', WHERE WHAT IT READS IS OF BULK AT MOST 1048576: true; the input reads as it did. -/
def fnExactIsMaximalIdealUptoRow : OpenClaim := { program := "yteoodcgppidomaa", sum := "c043f661971554121e3db22dfae0dbb83b192eaf59f043fec02e231795c16ab9", func := "loop.example/finiterings/laws.FnExactIsMaximalIdeal", spec := "fnExactIsMaximalIdeal", unfollowed := true, recurses := true, plainKeys := false, apart := false, narrowed := true }
def FnExactIsMaximalIdealUptoSaid : Prop := fnExactIsMaximalIdealUptoRow.holds Try.pinned (OpenSpec.upto fnExactIsMaximalIdealSpec)

/-- 'laws.FnExactColonIdeal', WHERE WHAT IT READS IS OF BULK AT MOST 1048576: true; the input reads as it did. -/
def fnExactColonIdealUptoRow : OpenClaim := { program := "yteoodcgppidomaa", sum := "c043f661971554121e3db22dfae0dbb83b192eaf59f043fec02e231795c16ab9", func := "loop.example/finiterings/laws.FnExactColonIdeal", spec := "fnExactColonIdeal", unfollowed := true, recurses := true, plainKeys := false, apart := false, narrowed := true }
def FnExactColonIdealUptoSaid : Prop := fnExactColonIdealUptoRow.holds Try.pinned (OpenSpec.upto fnExactColonIdealSpec)

/-- 'laws.FnExactAllIdeals', WHERE WHAT IT READS IS OF BULK AT MOST 1048576: true; the input reads as it did. -/
def fnExactAllIdealsUptoRow : OpenClaim := { program := "yteoodcgppidomaa", sum := "c043f661971554121e3db22dfae0dbb83b192eaf59f043fec02e231795c16ab9", func := "loop.example/finiterings/laws.FnExactAllIdeals", spec := "fnExactAllIdeals", unfollowed := true, recurses := true, plainKeys := false, apart := false, narrowed := true }
def FnExactAllIdealsUptoSaid : Prop := fnExactAllIdealsUptoRow.holds Try.pinned (OpenSpec.upto fnExactAllIdealsSpec)

/-- 'laws.FnExactAssociatesOf', WHERE WHAT IT READS IS OF BULK AT MOST 1048576: true; the input reads as it did. -/
def fnExactAssociatesOfUptoRow : OpenClaim := { program := "yteoodcgppidomaa", sum := "c043f661971554121e3db22dfae0dbb83b192eaf59f043fec02e231795c16ab9", func := "loop.example/finiterings/laws.FnExactAssociatesOf", spec := "fnExactAssociatesOf", unfollowed := true, recurses := true, plainKeys := false, apart := false, narrowed := true }
def FnExactAssociatesOfUptoSaid : Prop := fnExactAssociatesOfUptoRow.holds Try.pinned (OpenSpec.upto fnExactAssociatesOfSpec)

/-- 'laws.FnUnits', WHERE WHAT IT READS IS OF BULK AT MOST 1048576: true; the input reads as it did. -/
def fnUnitsUptoRow : OpenClaim := { program := "yteoodcgppidomaa", sum := "c043f661971554121e3db22dfae0dbb83b192eaf59f043fec02e231795c16ab9", func := "loop.example/finiterings/laws.FnUnits", spec := "fnUnits", unfollowed := true, recurses := true, plainKeys := false, apart := false, narrowed := true }
def FnUnitsUptoSaid : Prop := fnUnitsUptoRow.holds Try.pinned (OpenSpec.upto fnUnitsSpec)

end Rows
end Go.Proofs.Yteoodcgppidomaa
