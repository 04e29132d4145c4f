/-
  No cell of these rows narrows 'for every input' (looked for: loops, veiled, ifaces, maps, wideKeys, modest, calm, conditions, laid).
  DERIVED. THE GIVEN ROWS OF THIS SEAT. 12 by the template 'for every input the law returns true; each argument reads behind the call as it read before'; 0 by the template 'total and deterministic' (their statements: YtcbodedpahdobaaTotals.lean).
  GIVEN WITH THE SEED: the statements are not yours to turn. If you find one false, say at which input.
  Laid BY PROGRAM, IN A SANDBOX (cutbox-rows.mjs): the forced cells as the released guide's own fill.sh prints them over the translation b66248a1524983d7… (all of the seat's roots in one cut). By AI agents, Wed Nov 11 2026. No macro, syntax, notation, axiom, sorry.
-/
import Derived.Test.YtcbodedpahdobaaChecked
import GoSem.Claim
import GoSem.ClaimJoined
import GoSem.ClaimMapViews
import Derived.JoinedTies
import Derived.KernelRfl
namespace Go.Proofs.Ytcbodedpahdobaa
/- THE CELL 'sum', in the pinned program and in every row, IS THE sha256 OF THE DUMP (.gsa) THAT YtcbodedpahdobaaProg.lean LOADS. Nothing in Lean hashes anything: it is a label: what it is worth is what the hold of that sum in a sandbox is worth. -/
noncomputable def Try.pinned : Pinned := { name := "ytcbodedpahdobaa", sum := "b66248a1524983d7cae6e9c91d2e753e59b0ffc6bfbef4ac31c200b1808b4238", checked := Try.checked }
namespace Rows
def none {H : Type} : Left H := { results := [], args := [] }

/-- 'laws.FnIdealOf': WHATEVER THE INPUT: true; the input reads as it did. -/
def fnIdealOfSpec : ChangeSpec := { name := "fnIdealOf", fn := fun _ => fun
  | [d] => { results := [.lit (.bool true)], args := [d] }
  | _ => none }
def fnIdealOfRow : OpenClaim := { program := "ytcbodedpahdobaa", sum := "b66248a1524983d7cae6e9c91d2e753e59b0ffc6bfbef4ac31c200b1808b4238", func := "loop.example/finiterings/laws.FnIdealOf", spec := "fnIdealOf", unfollowed := true, recurses := true, plainKeys := false, apart := false }
def FnIdealOfSaid : Prop := fnIdealOfRow.holds Try.pinned (OpenSpec.ofChange fnIdealOfSpec)

/-- ITS FALSE NEIGHBOUR: 'it returns false'. Refute it at one input. -/
def fnIdealOfWrong : ChangeSpec := { name := "fnIdealOf", fn := fun _ => fun
  | [d] => { results := [.lit (.bool false)], args := [d] }
  | _ => none }
def FnIdealOfWrongFalsely : Prop := fnIdealOfRow.holds Try.pinned (OpenSpec.ofChange fnIdealOfWrong)

/-- 'laws.FnSubring': WHATEVER THE INPUT: true; the input reads as it did. -/
def fnSubringSpec : ChangeSpec := { name := "fnSubring", fn := fun _ => fun
  | [d] => { results := [.lit (.bool true)], args := [d] }
  | _ => none }
def fnSubringRow : OpenClaim := { program := "ytcbodedpahdobaa", sum := "b66248a1524983d7cae6e9c91d2e753e59b0ffc6bfbef4ac31c200b1808b4238", func := "loop.example/finiterings/laws.FnSubring", spec := "fnSubring", unfollowed := true, recurses := true, plainKeys := false, apart := false }
def FnSubringSaid : Prop := fnSubringRow.holds Try.pinned (OpenSpec.ofChange fnSubringSpec)

/-- ITS FALSE NEIGHBOUR: 'it returns false'. Refute it at one input. -/
def fnSubringWrong : ChangeSpec := { name := "fnSubring", fn := fun _ => fun
  | [d] => { results := [.lit (.bool false)], args := [d] }
  | _ => none }
def FnSubringWrongFalsely : Prop := fnSubringRow.holds Try.pinned (OpenSpec.ofChange fnSubringWrong)

/-- 'laws.FnExactAllIdeals': WHATEVER THE INPUT: true; the input reads as it did. -/
def fnExactAllIdealsSpec : ChangeSpec := { name := "fnExactAllIdeals", fn := fun _ => fun
  | [d] => { results := [.lit (.bool true)], args := [d] }
  | _ => none }
def fnExactAllIdealsRow : OpenClaim := { program := "ytcbodedpahdobaa", sum := "b66248a1524983d7cae6e9c91d2e753e59b0ffc6bfbef4ac31c200b1808b4238", func := "loop.example/finiterings/laws.FnExactAllIdeals", spec := "fnExactAllIdeals", unfollowed := true, recurses := true, plainKeys := false, apart := false }
def FnExactAllIdealsSaid : Prop := fnExactAllIdealsRow.holds Try.pinned (OpenSpec.ofChange fnExactAllIdealsSpec)

/-- ITS FALSE NEIGHBOUR: 'it returns false'. Refute it at one input. -/
def fnExactAllIdealsWrong : ChangeSpec := { name := "fnExactAllIdeals", fn := fun _ => fun
  | [d] => { results := [.lit (.bool false)], args := [d] }
  | _ => none }
def FnExactAllIdealsWrongFalsely : Prop := fnExactAllIdealsRow.holds Try.pinned (OpenSpec.ofChange fnExactAllIdealsWrong)

/-- 'laws.FnExactColonIdeal': WHATEVER THE INPUT: true; the input reads as it did. -/
def fnExactColonIdealSpec : ChangeSpec := { name := "fnExactColonIdeal", fn := fun _ => fun
  | [d1, d2, d3] => { results := [.lit (.bool true)], args := [d1, d2, d3] }
  | _ => none }
def fnExactColonIdealRow : OpenClaim := { program := "ytcbodedpahdobaa", sum := "b66248a1524983d7cae6e9c91d2e753e59b0ffc6bfbef4ac31c200b1808b4238", func := "loop.example/finiterings/laws.FnExactColonIdeal", spec := "fnExactColonIdeal", unfollowed := true, recurses := true, plainKeys := false, apart := false }
def FnExactColonIdealSaid : Prop := fnExactColonIdealRow.holds Try.pinned (OpenSpec.ofChange fnExactColonIdealSpec)

/-- ITS FALSE NEIGHBOUR: 'it returns false'. Refute it at one input. -/
def fnExactColonIdealWrong : ChangeSpec := { name := "fnExactColonIdeal", fn := fun _ => fun
  | [d1, d2, d3] => { results := [.lit (.bool false)], args := [d1, d2, d3] }
  | _ => none }
def FnExactColonIdealWrongFalsely : Prop := fnExactColonIdealRow.holds Try.pinned (OpenSpec.ofChange fnExactColonIdealWrong)

/-- 'laws.FnExactResidueSizes': WHATEVER THE INPUT: true; the input reads as it did. -/
def fnExactResidueSizesSpec : ChangeSpec := { name := "fnExactResidueSizes", fn := fun _ => fun
  | [d] => { results := [.lit (.bool true)], args := [d] }
  | _ => none }
def fnExactResidueSizesRow : OpenClaim := { program := "ytcbodedpahdobaa", sum := "b66248a1524983d7cae6e9c91d2e753e59b0ffc6bfbef4ac31c200b1808b4238", func := "loop.example/finiterings/laws.FnExactResidueSizes", spec := "fnExactResidueSizes", unfollowed := true, recurses := true, plainKeys := false, apart := false }
def FnExactResidueSizesSaid : Prop := fnExactResidueSizesRow.holds Try.pinned (OpenSpec.ofChange fnExactResidueSizesSpec)

/-- ITS FALSE NEIGHBOUR: 'it returns false'. Refute it at one input. -/
def fnExactResidueSizesWrong : ChangeSpec := { name := "fnExactResidueSizes", fn := fun _ => fun
  | [d] => { results := [.lit (.bool false)], args := [d] }
  | _ => none }
def FnExactResidueSizesWrongFalsely : Prop := fnExactResidueSizesRow.holds Try.pinned (OpenSpec.ofChange fnExactResidueSizesWrong)

/-- 'laws.FnExactIsHom': WHATEVER THE INPUT: true; the input reads as it did. -/
def fnExactIsHomSpec : ChangeSpec := { name := "fnExactIsHom", fn := fun _ => fun
  | [d1, d2, d3] => { results := [.lit (.bool true)], args := [d1, d2, d3] }
  | _ => none }
def fnExactIsHomRow : OpenClaim := { program := "ytcbodedpahdobaa", sum := "b66248a1524983d7cae6e9c91d2e753e59b0ffc6bfbef4ac31c200b1808b4238", func := "loop.example/finiterings/laws.FnExactIsHom", spec := "fnExactIsHom", plainKeys := false, apart := false }
def FnExactIsHomSaid : Prop := fnExactIsHomRow.holds Try.pinned (OpenSpec.ofChange fnExactIsHomSpec)

/-- ITS FALSE NEIGHBOUR: 'it returns false'. Refute it at one input. -/
def fnExactIsHomWrong : ChangeSpec := { name := "fnExactIsHom", fn := fun _ => fun
  | [d1, d2, d3] => { results := [.lit (.bool false)], args := [d1, d2, d3] }
  | _ => none }
def FnExactIsHomWrongFalsely : Prop := fnExactIsHomRow.holds Try.pinned (OpenSpec.ofChange fnExactIsHomWrong)

/-- 'laws.FnExactKernelOf': WHATEVER THE INPUT: true; the input reads as it did. -/
def fnExactKernelOfSpec : ChangeSpec := { name := "fnExactKernelOf", fn := fun _ => fun
  | [d1, d2, d3] => { results := [.lit (.bool true)], args := [d1, d2, d3] }
  | _ => none }
def fnExactKernelOfRow : OpenClaim := { program := "ytcbodedpahdobaa", sum := "b66248a1524983d7cae6e9c91d2e753e59b0ffc6bfbef4ac31c200b1808b4238", func := "loop.example/finiterings/laws.FnExactKernelOf", spec := "fnExactKernelOf", unfollowed := true, recurses := true, plainKeys := false, apart := false }
def FnExactKernelOfSaid : Prop := fnExactKernelOfRow.holds Try.pinned (OpenSpec.ofChange fnExactKernelOfSpec)

/-- ITS FALSE NEIGHBOUR: 'it returns false'. Refute it at one input. -/
def fnExactKernelOfWrong : ChangeSpec := { name := "fnExactKernelOf", fn := fun _ => fun
  | [d1, d2, d3] => { results := [.lit (.bool false)], args := [d1, d2, d3] }
  | _ => none }
def FnExactKernelOfWrongFalsely : Prop := fnExactKernelOfRow.holds Try.pinned (OpenSpec.ofChange fnExactKernelOfWrong)

/-- 'laws.FnExactImageOf': WHATEVER THE INPUT: true; the input reads as it did. -/
def fnExactImageOfSpec : ChangeSpec := { name := "fnExactImageOf", fn := fun _ => fun
  | [d1, d2, d3] => { results := [.lit (.bool true)], args := [d1, d2, d3] }
  | _ => none }
def fnExactImageOfRow : OpenClaim := { program := "ytcbodedpahdobaa", sum := "b66248a1524983d7cae6e9c91d2e753e59b0ffc6bfbef4ac31c200b1808b4238", func := "loop.example/finiterings/laws.FnExactImageOf", spec := "fnExactImageOf", unfollowed := true, recurses := true, plainKeys := false, apart := false }
def FnExactImageOfSaid : Prop := fnExactImageOfRow.holds Try.pinned (OpenSpec.ofChange fnExactImageOfSpec)

/-- ITS FALSE NEIGHBOUR: 'it returns false'. Refute it at one input. -/
def fnExactImageOfWrong : ChangeSpec := { name := "fnExactImageOf", fn := fun _ => fun
  | [d1, d2, d3] => { results := [.lit (.bool false)], args := [d1, d2, d3] }
  | _ => none }
def FnExactImageOfWrongFalsely : Prop := fnExactImageOfRow.holds Try.pinned (OpenSpec.ofChange fnExactImageOfWrong)

/-- 'laws.FnExactThenMap': WHATEVER THE INPUT: true; the input reads as it did. -/
def fnExactThenMapSpec : ChangeSpec := { name := "fnExactThenMap", fn := fun _ => fun
  | [d1, d2] => { results := [.lit (.bool true)], args := [d1, d2] }
  | _ => none }
def fnExactThenMapRow : OpenClaim := { program := "ytcbodedpahdobaa", sum := "b66248a1524983d7cae6e9c91d2e753e59b0ffc6bfbef4ac31c200b1808b4238", func := "loop.example/finiterings/laws.FnExactThenMap", spec := "fnExactThenMap", plainKeys := false, apart := false }
def FnExactThenMapSaid : Prop := fnExactThenMapRow.holds Try.pinned (OpenSpec.ofChange fnExactThenMapSpec)

/-- ITS FALSE NEIGHBOUR: 'it returns false'. Refute it at one input. -/
def fnExactThenMapWrong : ChangeSpec := { name := "fnExactThenMap", fn := fun _ => fun
  | [d1, d2] => { results := [.lit (.bool false)], args := [d1, d2] }
  | _ => none }
def FnExactThenMapWrongFalsely : Prop := fnExactThenMapRow.holds Try.pinned (OpenSpec.ofChange fnExactThenMapWrong)

/-- 'laws.FnExactIsomorphismOf': WHATEVER THE INPUT: true; the input reads as it did. -/
def fnExactIsomorphismOfSpec : ChangeSpec := { name := "fnExactIsomorphismOf", fn := fun _ => fun
  | [d1, d2] => { results := [.lit (.bool true)], args := [d1, d2] }
  | _ => none }
def fnExactIsomorphismOfRow : OpenClaim := { program := "ytcbodedpahdobaa", sum := "b66248a1524983d7cae6e9c91d2e753e59b0ffc6bfbef4ac31c200b1808b4238", func := "loop.example/finiterings/laws.FnExactIsomorphismOf", spec := "fnExactIsomorphismOf", unfollowed := true, recurses := true, plainKeys := false, apart := false }
def FnExactIsomorphismOfSaid : Prop := fnExactIsomorphismOfRow.holds Try.pinned (OpenSpec.ofChange fnExactIsomorphismOfSpec)

/-- ITS FALSE NEIGHBOUR: 'it returns false'. Refute it at one input. -/
def fnExactIsomorphismOfWrong : ChangeSpec := { name := "fnExactIsomorphismOf", fn := fun _ => fun
  | [d1, d2] => { results := [.lit (.bool false)], args := [d1, d2] }
  | _ => none }
def FnExactIsomorphismOfWrongFalsely : Prop := fnExactIsomorphismOfRow.holds Try.pinned (OpenSpec.ofChange fnExactIsomorphismOfWrong)

/-- 'laws.FnExactSubringOf': WHATEVER THE INPUT: true; the input reads as it did. -/
def fnExactSubringOfSpec : ChangeSpec := { name := "fnExactSubringOf", fn := fun _ => fun
  | [d1, d2] => { results := [.lit (.bool true)], args := [d1, d2] }
  | _ => none }
def fnExactSubringOfRow : OpenClaim := { program := "ytcbodedpahdobaa", sum := "b66248a1524983d7cae6e9c91d2e753e59b0ffc6bfbef4ac31c200b1808b4238", func := "loop.example/finiterings/laws.FnExactSubringOf", spec := "fnExactSubringOf", unfollowed := true, recurses := true, plainKeys := false, apart := false }
def FnExactSubringOfSaid : Prop := fnExactSubringOfRow.holds Try.pinned (OpenSpec.ofChange fnExactSubringOfSpec)

/-- ITS FALSE NEIGHBOUR: 'it returns false'. Refute it at one input. -/
def fnExactSubringOfWrong : ChangeSpec := { name := "fnExactSubringOf", fn := fun _ => fun
  | [d1, d2] => { results := [.lit (.bool false)], args := [d1, d2] }
  | _ => none }
def FnExactSubringOfWrongFalsely : Prop := fnExactSubringOfRow.holds Try.pinned (OpenSpec.ofChange fnExactSubringOfWrong)

/-- 'laws.FnExactFactorMap': WHATEVER THE INPUT: true; the input reads as it did. -/
def fnExactFactorMapSpec : ChangeSpec := { name := "fnExactFactorMap", fn := fun _ => fun
  | [d1, d2, d3] => { results := [.lit (.bool true)], args := [d1, d2, d3] }
  | _ => none }
def fnExactFactorMapRow : OpenClaim := { program := "ytcbodedpahdobaa", sum := "b66248a1524983d7cae6e9c91d2e753e59b0ffc6bfbef4ac31c200b1808b4238", func := "loop.example/finiterings/laws.FnExactFactorMap", spec := "fnExactFactorMap", unfollowed := true, recurses := true, plainKeys := false, apart := false }
def FnExactFactorMapSaid : Prop := fnExactFactorMapRow.holds Try.pinned (OpenSpec.ofChange fnExactFactorMapSpec)

/-- ITS FALSE NEIGHBOUR: 'it returns false'. Refute it at one input. -/
def fnExactFactorMapWrong : ChangeSpec := { name := "fnExactFactorMap", fn := fun _ => fun
  | [d1, d2, d3] => { results := [.lit (.bool false)], args := [d1, d2, d3] }
  | _ => none }
def FnExactFactorMapWrongFalsely : Prop := fnExactFactorMapRow.holds Try.pinned (OpenSpec.ofChange fnExactFactorMapWrong)

/- THE SECOND FORM. 'bulk': how many values and letters a reading holds, each counted each time it is reached (what is shared counts as often as it is met; a slice's spare places count too). A statement '..UptoSaid' is the law's where the arguments, and the package variables that the reading takes, are together of bulk at most 1048576: NARROWER than '..Said'. Prove '..Said' where nothing that the law and all that it calls make is longer than what came in: it says more and counts as full. Else prove '..UptoSaid'. A law counts once. -/
mutual
def uptoBulk {H : Type} : DataW H → Nat
  | .lit (.string bytes) => bytes.length + 1
  | .lit _ => 1
  | .nil => 1
  | .ptr d => uptoBulk d + 1
  | .slice elems spare => uptoBulkAll elems + uptoBulkAll spare + 1
  | .agg parts => uptoBulkAll parts + 1
  | .iface _ d => uptoBulk d + 1
  | .map entries => uptoBulkEntries entries + 1
  | .held _ => 1
def uptoBulkAll {H : Type} : List (DataW H) → Nat
  | [] => 0
  | d :: r => uptoBulk d + uptoBulkAll r
def uptoBulkEntries {H : Type} : List (Lit × DataW H) → Nat
  | [] => 0
  | x :: r => uptoBulkEntry x + uptoBulkEntries r
def uptoBulkEntry {H : Type} : Lit × DataW H → Nat
  | (.string bytes, d) => bytes.length + uptoBulk d + 1
  | (_, d) => uptoBulk d + 1
 end
def uptoSmall : (H : Type) → List (DataW H) → Bool := fun _ ds => decide (uptoBulkAll ds ≤ 1048576)
def OpenSpec.upto (s : _root_.Go.ChangeSpec) : _root_.Go.OpenSpec := { _root_.Go.OpenSpec.ofChange s with cond := some uptoSmall }

/-- 'laws.FnIdealOf', WHERE WHAT IT READS IS OF BULK AT MOST 1048576: true; the input reads as it did. -/
def fnIdealOfUptoRow : OpenClaim := { program := "ytcbodedpahdobaa", sum := "b66248a1524983d7cae6e9c91d2e753e59b0ffc6bfbef4ac31c200b1808b4238", func := "loop.example/finiterings/laws.FnIdealOf", spec := "fnIdealOf", unfollowed := true, recurses := true, plainKeys := false, apart := false, narrowed := true }
def FnIdealOfUptoSaid : Prop := fnIdealOfUptoRow.holds Try.pinned (OpenSpec.upto fnIdealOfSpec)

/-- 'laws.FnSubring', WHERE WHAT IT READS IS OF BULK AT MOST 1048576: true; the input reads as it did. -/
def fnSubringUptoRow : OpenClaim := { program := "ytcbodedpahdobaa", sum := "b66248a1524983d7cae6e9c91d2e753e59b0ffc6bfbef4ac31c200b1808b4238", func := "loop.example/finiterings/laws.FnSubring", spec := "fnSubring", unfollowed := true, recurses := true, plainKeys := false, apart := false, narrowed := true }
def FnSubringUptoSaid : Prop := fnSubringUptoRow.holds Try.pinned (OpenSpec.upto fnSubringSpec)

/-- 'laws.FnExactAllIdeals', WHERE WHAT IT READS IS OF BULK AT MOST 1048576: true; the input reads as it did. -/
def fnExactAllIdealsUptoRow : OpenClaim := { program := "ytcbodedpahdobaa", sum := "b66248a1524983d7cae6e9c91d2e753e59b0ffc6bfbef4ac31c200b1808b4238", func := "loop.example/finiterings/laws.FnExactAllIdeals", spec := "fnExactAllIdeals", unfollowed := true, recurses := true, plainKeys := false, apart := false, narrowed := true }
def FnExactAllIdealsUptoSaid : Prop := fnExactAllIdealsUptoRow.holds Try.pinned (OpenSpec.upto fnExactAllIdealsSpec)

/-- 'laws.FnExactColonIdeal', WHERE WHAT IT READS IS OF BULK AT MOST 1048576: true; the input reads as it did. -/
def fnExactColonIdealUptoRow : OpenClaim := { program := "ytcbodedpahdobaa", sum := "b66248a1524983d7cae6e9c91d2e753e59b0ffc6bfbef4ac31c200b1808b4238", func := "loop.example/finiterings/laws.FnExactColonIdeal", spec := "fnExactColonIdeal", unfollowed := true, recurses := true, plainKeys := false, apart := false, narrowed := true }
def FnExactColonIdealUptoSaid : Prop := fnExactColonIdealUptoRow.holds Try.pinned (OpenSpec.upto fnExactColonIdealSpec)

/-- 'laws.FnExactResidueSizes', WHERE WHAT IT READS IS OF BULK AT MOST 1048576: true; the input reads as it did. -/
def fnExactResidueSizesUptoRow : OpenClaim := { program := "ytcbodedpahdobaa", sum := "b66248a1524983d7cae6e9c91d2e753e59b0ffc6bfbef4ac31c200b1808b4238", func := "loop.example/finiterings/laws.FnExactResidueSizes", spec := "fnExactResidueSizes", unfollowed := true, recurses := true, plainKeys := false, apart := false, narrowed := true }
def FnExactResidueSizesUptoSaid : Prop := fnExactResidueSizesUptoRow.holds Try.pinned (OpenSpec.upto fnExactResidueSizesSpec)

/-- 'laws.FnExactIsHom', WHERE WHAT IT READS IS OF BULK AT MOST 1048576: true; the input reads as it did. -/
def fnExactIsHomUptoRow : OpenClaim := { program := "ytcbodedpahdobaa", sum := "b66248a1524983d7cae6e9c91d2e753e59b0ffc6bfbef4ac31c200b1808b4238", func := "loop.example/finiterings/laws.FnExactIsHom", spec := "fnExactIsHom", plainKeys := false, apart := false, narrowed := true }
def FnExactIsHomUptoSaid : Prop := fnExactIsHomUptoRow.holds Try.pinned (OpenSpec.upto fnExactIsHomSpec)

/-- 'laws.FnExactKernelOf', WHERE WHAT IT READS IS OF BULK AT MOST 1048576: true; the input reads as it did. -/
def fnExactKernelOfUptoRow : OpenClaim := { program := "ytcbodedpahdobaa", sum := "b66248a1524983d7cae6e9c91d2e753e59b0ffc6bfbef4ac31c200b1808b4238", func := "loop.example/finiterings/laws.FnExactKernelOf", spec := "fnExactKernelOf", unfollowed := true, recurses := true, plainKeys := false, apart := false, narrowed := true }
def FnExactKernelOfUptoSaid : Prop := fnExactKernelOfUptoRow.holds Try.pinned (OpenSpec.upto fnExactKernelOfSpec)

/-- 'laws.FnExactImageOf', WHERE WHAT IT READS IS OF BULK AT MOST 1048576: true; the input reads as it did. -/
def fnExactImageOfUptoRow : OpenClaim := { program := "ytcbodedpahdobaa", sum := "b66248a1524983d7cae6e9c91d2e753e59b0ffc6bfbef4ac31c200b1808b4238", func := "loop.example/finiterings/laws.FnExactImageOf", spec := "fnExactImageOf", unfollowed := true, recurses := true, plainKeys := false, apart := false, narrowed := true }
def FnExactImageOfUptoSaid : Prop := fnExactImageOfUptoRow.holds Try.pinned (OpenSpec.upto fnExactImageOfSpec)

/-- 'laws.FnExactThenMap', WHERE WHAT IT READS IS OF BULK AT MOST 1048576: true; the input reads as it did. -/
def fnExactThenMapUptoRow : OpenClaim := { program := "ytcbodedpahdobaa", sum := "b66248a1524983d7cae6e9c91d2e753e59b0ffc6bfbef4ac31c200b1808b4238", func := "loop.example/finiterings/laws.FnExactThenMap", spec := "fnExactThenMap", plainKeys := false, apart := false, narrowed := true }
def FnExactThenMapUptoSaid : Prop := fnExactThenMapUptoRow.holds Try.pinned (OpenSpec.upto fnExactThenMapSpec)

/-- 'laws.FnExactIsomorphismOf', WHERE WHAT IT READS IS OF BULK AT MOST 1048576: true; the input reads as it did. -/
def fnExactIsomorphismOfUptoRow : OpenClaim := { program := "ytcbodedpahdobaa", sum := "b66248a1524983d7cae6e9c91d2e753e59b0ffc6bfbef4ac31c200b1808b4238", func := "loop.example/finiterings/laws.FnExactIsomorphismOf", spec := "fnExactIsomorphismOf", unfollowed := true, recurses := true, plainKeys := false, apart := false, narrowed := true }
def FnExactIsomorphismOfUptoSaid : Prop := fnExactIsomorphismOfUptoRow.holds Try.pinned (OpenSpec.upto fnExactIsomorphismOfSpec)

/-- 'laws.FnExactSubringOf', WHERE WHAT IT READS IS OF BULK AT MOST 1048576: true; the input reads as it did. -/
def fnExactSubringOfUptoRow : OpenClaim := { program := "ytcbodedpahdobaa", sum := "b66248a1524983d7cae6e9c91d2e753e59b0ffc6bfbef4ac31c200b1808b4238", func := "loop.example/finiterings/laws.FnExactSubringOf", spec := "fnExactSubringOf", unfollowed := true, recurses := true, plainKeys := false, apart := false, narrowed := true }
def FnExactSubringOfUptoSaid : Prop := fnExactSubringOfUptoRow.holds Try.pinned (OpenSpec.upto fnExactSubringOfSpec)

/-- 'laws.FnExactFactorMap', WHERE WHAT IT READS IS OF BULK AT MOST 1048576: true; the input reads as it did. -/
def fnExactFactorMapUptoRow : OpenClaim := { program := "ytcbodedpahdobaa", sum := "b66248a1524983d7cae6e9c91d2e753e59b0ffc6bfbef4ac31c200b1808b4238", func := "loop.example/finiterings/laws.FnExactFactorMap", spec := "fnExactFactorMap", unfollowed := true, recurses := true, plainKeys := false, apart := false, narrowed := true }
def FnExactFactorMapUptoSaid : Prop := fnExactFactorMapUptoRow.holds Try.pinned (OpenSpec.upto fnExactFactorMapSpec)

end Rows
end Go.Proofs.Ytcbodedpahdobaa
