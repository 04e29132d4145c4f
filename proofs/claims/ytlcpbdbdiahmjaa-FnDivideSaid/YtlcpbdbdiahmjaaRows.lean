/-
  No cell of these rows narrows 'for every input' (looked for: loops, veiled, ifaces, maps, wideKeys, modest, calm, conditions, laid).
  DERIVED. THE GIVEN ROWS OF THIS SEAT. 9 by the template 'for every input the law returns true; each argument reads behind the call as it read before'; 0 by the template 'total and deterministic' (their statements: YtlcpbdbdiahmjaaTotals.lean).
  GIVEN WITH THE SEED: the statements are not yours to turn. If you find one false, say at which input.
  Laid BY PROGRAM, IN A SANDBOX (cutbox-rows.mjs): the forced cells as the released guide's own fill.sh prints them over the translation bcdb640d1f853d34… (all of the seat's roots in one cut). By AI agents, Wed Nov 11 2026. No macro, syntax, notation, axiom, sorry.
-/
import Derived.Test.YtlcpbdbdiahmjaaChecked
import GoSem.Claim
import GoSem.ClaimJoined
import GoSem.ClaimMapViews
import Derived.JoinedTies
import Derived.KernelRfl
namespace Go.Proofs.Ytlcpbdbdiahmjaa
/- THE CELL 'sum', in the pinned program and in every row, IS THE sha256 OF THE DUMP (.gsa) THAT YtlcpbdbdiahmjaaProg.lean LOADS. Nothing in Lean hashes anything: it is a label: what it is worth is what the hold of that sum in a sandbox is worth. -/
noncomputable def Try.pinned : Pinned := { name := "ytlcpbdbdiahmjaa", sum := "bcdb640d1f853d34473b7854baadacc6054bd246eef387869b95a16819fa3396", checked := Try.checked }
namespace Rows
def none {H : Type} : Left H := { results := [], args := [] }

/-- 'laws.FnDivide': WHATEVER THE INPUT: true; the input reads as it did. -/
def fnDivideSpec : ChangeSpec := { name := "fnDivide", fn := fun _ => fun
  | [d] => { results := [.lit (.bool true)], args := [d] }
  | _ => none }
def fnDivideRow : OpenClaim := { program := "ytlcpbdbdiahmjaa", sum := "bcdb640d1f853d34473b7854baadacc6054bd246eef387869b95a16819fa3396", func := "loop.example/finiterings/laws.FnDivide", spec := "fnDivide", unfollowed := true, recurses := true, apart := false }
def FnDivideSaid : Prop := fnDivideRow.holds Try.pinned (OpenSpec.ofChange fnDivideSpec)

/-- ITS FALSE NEIGHBOUR: 'it returns false'. Refute it at one input. -/
def fnDivideWrong : ChangeSpec := { name := "fnDivide", fn := fun _ => fun
  | [d] => { results := [.lit (.bool false)], args := [d] }
  | _ => none }
def FnDivideWrongFalsely : Prop := fnDivideRow.holds Try.pinned (OpenSpec.ofChange fnDivideWrong)

/-- 'laws.FnInvariants': WHATEVER THE INPUT: true; the input reads as it did. -/
def fnInvariantsSpec : ChangeSpec := { name := "fnInvariants", fn := fun _ => fun
  | [d] => { results := [.lit (.bool true)], args := [d] }
  | _ => none }
def fnInvariantsRow : OpenClaim := { program := "ytlcpbdbdiahmjaa", sum := "bcdb640d1f853d34473b7854baadacc6054bd246eef387869b95a16819fa3396", func := "loop.example/finiterings/laws.FnInvariants", spec := "fnInvariants", recurses := true, apart := false }
def FnInvariantsSaid : Prop := fnInvariantsRow.holds Try.pinned (OpenSpec.ofChange fnInvariantsSpec)

/-- ITS FALSE NEIGHBOUR: 'it returns false'. Refute it at one input. -/
def fnInvariantsWrong : ChangeSpec := { name := "fnInvariants", fn := fun _ => fun
  | [d] => { results := [.lit (.bool false)], args := [d] }
  | _ => none }
def FnInvariantsWrongFalsely : Prop := fnInvariantsRow.holds Try.pinned (OpenSpec.ofChange fnInvariantsWrong)

/-- 'laws.FnPowers': WHATEVER THE INPUT: true; the input reads as it did. -/
def fnPowersSpec : ChangeSpec := { name := "fnPowers", fn := fun _ => fun
  | [d] => { results := [.lit (.bool true)], args := [d] }
  | _ => none }
def fnPowersRow : OpenClaim := { program := "ytlcpbdbdiahmjaa", sum := "bcdb640d1f853d34473b7854baadacc6054bd246eef387869b95a16819fa3396", func := "loop.example/finiterings/laws.FnPowers", spec := "fnPowers", unfollowed := true, recurses := true, apart := false }
def FnPowersSaid : Prop := fnPowersRow.holds Try.pinned (OpenSpec.ofChange fnPowersSpec)

/-- ITS FALSE NEIGHBOUR: 'it returns false'. Refute it at one input. -/
def fnPowersWrong : ChangeSpec := { name := "fnPowers", fn := fun _ => fun
  | [d] => { results := [.lit (.bool false)], args := [d] }
  | _ => none }
def FnPowersWrongFalsely : Prop := fnPowersRow.holds Try.pinned (OpenSpec.ofChange fnPowersWrong)

/-- 'laws.FnExactInvariantsOf': WHATEVER THE INPUT: true; the input reads as it did. -/
def fnExactInvariantsOfSpec : ChangeSpec := { name := "fnExactInvariantsOf", fn := fun _ => fun
  | [d] => { results := [.lit (.bool true)], args := [d] }
  | _ => none }
def fnExactInvariantsOfRow : OpenClaim := { program := "ytlcpbdbdiahmjaa", sum := "bcdb640d1f853d34473b7854baadacc6054bd246eef387869b95a16819fa3396", func := "loop.example/finiterings/laws.FnExactInvariantsOf", spec := "fnExactInvariantsOf", recurses := true, apart := false }
def FnExactInvariantsOfSaid : Prop := fnExactInvariantsOfRow.holds Try.pinned (OpenSpec.ofChange fnExactInvariantsOfSpec)

/-- ITS FALSE NEIGHBOUR: 'it returns false'. Refute it at one input. -/
def fnExactInvariantsOfWrong : ChangeSpec := { name := "fnExactInvariantsOf", fn := fun _ => fun
  | [d] => { results := [.lit (.bool false)], args := [d] }
  | _ => none }
def FnExactInvariantsOfWrongFalsely : Prop := fnExactInvariantsOfRow.holds Try.pinned (OpenSpec.ofChange fnExactInvariantsOfWrong)

/-- 'laws.FnExactIsCyclic': WHATEVER THE INPUT: true; the input reads as it did. -/
def fnExactIsCyclicSpec : ChangeSpec := { name := "fnExactIsCyclic", fn := fun _ => fun
  | [d] => { results := [.lit (.bool true)], args := [d] }
  | _ => none }
def fnExactIsCyclicRow : OpenClaim := { program := "ytlcpbdbdiahmjaa", sum := "bcdb640d1f853d34473b7854baadacc6054bd246eef387869b95a16819fa3396", func := "loop.example/finiterings/laws.FnExactIsCyclic", spec := "fnExactIsCyclic", apart := false }
def FnExactIsCyclicSaid : Prop := fnExactIsCyclicRow.holds Try.pinned (OpenSpec.ofChange fnExactIsCyclicSpec)

/-- ITS FALSE NEIGHBOUR: 'it returns false'. Refute it at one input. -/
def fnExactIsCyclicWrong : ChangeSpec := { name := "fnExactIsCyclic", fn := fun _ => fun
  | [d] => { results := [.lit (.bool false)], args := [d] }
  | _ => none }
def FnExactIsCyclicWrongFalsely : Prop := fnExactIsCyclicRow.holds Try.pinned (OpenSpec.ofChange fnExactIsCyclicWrong)

/-- 'laws.FnExactExponentOf': WHATEVER THE INPUT: true; the input reads as it did. -/
def fnExactExponentOfSpec : ChangeSpec := { name := "fnExactExponentOf", fn := fun _ => fun
  | [d] => { results := [.lit (.bool true)], args := [d] }
  | _ => none }
def fnExactExponentOfRow : OpenClaim := { program := "ytlcpbdbdiahmjaa", sum := "bcdb640d1f853d34473b7854baadacc6054bd246eef387869b95a16819fa3396", func := "loop.example/finiterings/laws.FnExactExponentOf", spec := "fnExactExponentOf", apart := false }
def FnExactExponentOfSaid : Prop := fnExactExponentOfRow.holds Try.pinned (OpenSpec.ofChange fnExactExponentOfSpec)

/-- ITS FALSE NEIGHBOUR: 'it returns false'. Refute it at one input. -/
def fnExactExponentOfWrong : ChangeSpec := { name := "fnExactExponentOf", fn := fun _ => fun
  | [d] => { results := [.lit (.bool false)], args := [d] }
  | _ => none }
def FnExactExponentOfWrongFalsely : Prop := fnExactExponentOfRow.holds Try.pinned (OpenSpec.ofChange fnExactExponentOfWrong)

/-- 'laws.FnExactPrimitiveUnitOf': WHATEVER THE INPUT: true; the input reads as it did. -/
def fnExactPrimitiveUnitOfSpec : ChangeSpec := { name := "fnExactPrimitiveUnitOf", fn := fun _ => fun
  | [d] => { results := [.lit (.bool true)], args := [d] }
  | _ => none }
def fnExactPrimitiveUnitOfRow : OpenClaim := { program := "ytlcpbdbdiahmjaa", sum := "bcdb640d1f853d34473b7854baadacc6054bd246eef387869b95a16819fa3396", func := "loop.example/finiterings/laws.FnExactPrimitiveUnitOf", spec := "fnExactPrimitiveUnitOf", unfollowed := true, recurses := true, apart := false }
def FnExactPrimitiveUnitOfSaid : Prop := fnExactPrimitiveUnitOfRow.holds Try.pinned (OpenSpec.ofChange fnExactPrimitiveUnitOfSpec)

/-- ITS FALSE NEIGHBOUR: 'it returns false'. Refute it at one input. -/
def fnExactPrimitiveUnitOfWrong : ChangeSpec := { name := "fnExactPrimitiveUnitOf", fn := fun _ => fun
  | [d] => { results := [.lit (.bool false)], args := [d] }
  | _ => none }
def FnExactPrimitiveUnitOfWrongFalsely : Prop := fnExactPrimitiveUnitOfRow.holds Try.pinned (OpenSpec.ofChange fnExactPrimitiveUnitOfWrong)

/-- 'laws.FnExactPowersOf': WHATEVER THE INPUT: true; the input reads as it did. -/
def fnExactPowersOfSpec : ChangeSpec := { name := "fnExactPowersOf", fn := fun _ => fun
  | [d1, d2] => { results := [.lit (.bool true)], args := [d1, d2] }
  | _ => none }
def fnExactPowersOfRow : OpenClaim := { program := "ytlcpbdbdiahmjaa", sum := "bcdb640d1f853d34473b7854baadacc6054bd246eef387869b95a16819fa3396", func := "loop.example/finiterings/laws.FnExactPowersOf", spec := "fnExactPowersOf", unfollowed := true, recurses := true, apart := false }
def FnExactPowersOfSaid : Prop := fnExactPowersOfRow.holds Try.pinned (OpenSpec.ofChange fnExactPowersOfSpec)

/-- ITS FALSE NEIGHBOUR: 'it returns false'. Refute it at one input. -/
def fnExactPowersOfWrong : ChangeSpec := { name := "fnExactPowersOf", fn := fun _ => fun
  | [d1, d2] => { results := [.lit (.bool false)], args := [d1, d2] }
  | _ => none }
def FnExactPowersOfWrongFalsely : Prop := fnExactPowersOfRow.holds Try.pinned (OpenSpec.ofChange fnExactPowersOfWrong)

/-- 'laws.FnExactDividePoly': WHATEVER THE INPUT: true; the input reads as it did. -/
def fnExactDividePolySpec : ChangeSpec := { name := "fnExactDividePoly", fn := fun _ => fun
  | [d1, d2, d3] => { results := [.lit (.bool true)], args := [d1, d2, d3] }
  | _ => none }
def fnExactDividePolyRow : OpenClaim := { program := "ytlcpbdbdiahmjaa", sum := "bcdb640d1f853d34473b7854baadacc6054bd246eef387869b95a16819fa3396", func := "loop.example/finiterings/laws.FnExactDividePoly", spec := "fnExactDividePoly", unfollowed := true, recurses := true, apart := false }
def FnExactDividePolySaid : Prop := fnExactDividePolyRow.holds Try.pinned (OpenSpec.ofChange fnExactDividePolySpec)

/-- ITS FALSE NEIGHBOUR: 'it returns false'. Refute it at one input. -/
def fnExactDividePolyWrong : ChangeSpec := { name := "fnExactDividePoly", fn := fun _ => fun
  | [d1, d2, d3] => { results := [.lit (.bool false)], args := [d1, d2, d3] }
  | _ => none }
def FnExactDividePolyWrongFalsely : Prop := fnExactDividePolyRow.holds Try.pinned (OpenSpec.ofChange fnExactDividePolyWrong)

/- THE SECOND FORM. 'bulk': how many values and letters a reading holds, each counted each time it is reached (what is shared counts as often as it is met; a slice's spare places count too). A statement '..UptoSaid' is the law's where the arguments, and the package variables that the reading takes, are together of bulk at most 1048576: NARROWER than '..Said'. Prove '..Said' where nothing that the law and all that it calls make is longer than what came in: it says more and counts as full. Else prove '..UptoSaid'. A law counts once. -/
mutual
def uptoBulk {H : Type} : DataW H → Nat
  | .lit (.string bytes) => bytes.length + 1
  | .lit _ => 1
  | .nil => 1
  | .ptr d => uptoBulk d + 1
  | .slice elems spare => uptoBulkAll elems + uptoBulkAll spare + 1
  | .agg parts => uptoBulkAll parts + 1
  | .iface _ d => uptoBulk d + 1
  | .map entries => uptoBulkEntries entries + 1
  | .held _ => 1
def uptoBulkAll {H : Type} : List (DataW H) → Nat
  | [] => 0
  | d :: r => uptoBulk d + uptoBulkAll r
def uptoBulkEntries {H : Type} : List (Lit × DataW H) → Nat
  | [] => 0
  | x :: r => uptoBulkEntry x + uptoBulkEntries r
def uptoBulkEntry {H : Type} : Lit × DataW H → Nat
  | (.string bytes, d) => bytes.length + uptoBulk d + 1
  | (_, d) => uptoBulk d + 1
 end
def uptoSmall : (H : Type) → List (DataW H) → Bool := fun _ ds => decide (uptoBulkAll ds ≤ 1048576)
def OpenSpec.upto (s : _root_.Go.ChangeSpec) : _root_.Go.OpenSpec := { _root_.Go.OpenSpec.ofChange s with cond := some uptoSmall }

/-- 'laws.FnDivide', WHERE WHAT IT READS IS OF BULK AT MOST 1048576: true; the input reads as it did. -/
def fnDivideUptoRow : OpenClaim := { program := "ytlcpbdbdiahmjaa", sum := "bcdb640d1f853d34473b7854baadacc6054bd246eef387869b95a16819fa3396", func := "loop.example/finiterings/laws.FnDivide", spec := "fnDivide", unfollowed := true, recurses := true, apart := false, narrowed := true }
def FnDivideUptoSaid : Prop := fnDivideUptoRow.holds Try.pinned (OpenSpec.upto fnDivideSpec)

/-- 'laws.FnInvariants', WHERE WHAT IT READS IS OF BULK AT MOST 1048576: true; the input reads as it did. -/
def fnInvariantsUptoRow : OpenClaim := { program := "ytlcpbdbdiahmjaa", sum := "bcdb640d1f853d34473b7854baadacc6054bd246eef387869b95a16819fa3396", func := "loop.example/finiterings/laws.FnInvariants", spec := "fnInvariants", recurses := true, apart := false, narrowed := true }
def FnInvariantsUptoSaid : Prop := fnInvariantsUptoRow.holds Try.pinned (OpenSpec.upto fnInvariantsSpec)

/-- 'laws.FnPowers', WHERE WHAT IT READS IS OF BULK AT MOST 1048576: true; the input reads as it did. -/
def fnPowersUptoRow : OpenClaim := { program := "ytlcpbdbdiahmjaa", sum := "bcdb640d1f853d34473b7854baadacc6054bd246eef387869b95a16819fa3396", func := "loop.example/finiterings/laws.FnPowers", spec := "fnPowers", unfollowed := true, recurses := true, apart := false, narrowed := true }
def FnPowersUptoSaid : Prop := fnPowersUptoRow.holds Try.pinned (OpenSpec.upto fnPowersSpec)

/-- 'laws.FnExactInvariantsOf', WHERE WHAT IT READS IS OF BULK AT MOST 1048576: true; the input reads as it did. -/
def fnExactInvariantsOfUptoRow : OpenClaim := { program := "ytlcpbdbdiahmjaa", sum := "bcdb640d1f853d34473b7854baadacc6054bd246eef387869b95a16819fa3396", func := "loop.example/finiterings/laws.FnExactInvariantsOf", spec := "fnExactInvariantsOf", recurses := true, apart := false, narrowed := true }
def FnExactInvariantsOfUptoSaid : Prop := fnExactInvariantsOfUptoRow.holds Try.pinned (OpenSpec.upto fnExactInvariantsOfSpec)

/-- 'laws.FnExactIsCyclic', WHERE WHAT IT READS IS OF BULK AT MOST 1048576: true; the input reads as it did. -/
def fnExactIsCyclicUptoRow : OpenClaim := { program := "ytlcpbdbdiahmjaa", sum := "bcdb640d1f853d34473b7854baadacc6054bd246eef387869b95a16819fa3396", func := "loop.example/finiterings/laws.FnExactIsCyclic", spec := "fnExactIsCyclic", apart := false, narrowed := true }
def FnExactIsCyclicUptoSaid : Prop := fnExactIsCyclicUptoRow.holds Try.pinned (OpenSpec.upto fnExactIsCyclicSpec)

/-- 'laws.FnExactExponentOf', WHERE WHAT IT READS IS OF BULK AT MOST 1048576: true; the input reads as it did. -/
def fnExactExponentOfUptoRow : OpenClaim := { program := "ytlcpbdbdiahmjaa", sum := "bcdb640d1f853d34473b7854baadacc6054bd246eef387869b95a16819fa3396", func := "loop.example/finiterings/laws.FnExactExponentOf", spec := "fnExactExponentOf", apart := false, narrowed := true }
def FnExactExponentOfUptoSaid : Prop := fnExactExponentOfUptoRow.holds Try.pinned (OpenSpec.upto fnExactExponentOfSpec)

/-- 'laws.FnExactPrimitiveUnitOf', WHERE WHAT IT READS IS OF BULK AT MOST 1048576: true; the input reads as it did. -/
def fnExactPrimitiveUnitOfUptoRow : OpenClaim := { program := "ytlcpbdbdiahmjaa", sum := "bcdb640d1f853d34473b7854baadacc6054bd246eef387869b95a16819fa3396", func := "loop.example/finiterings/laws.FnExactPrimitiveUnitOf", spec := "fnExactPrimitiveUnitOf", unfollowed := true, recurses := true, apart := false, narrowed := true }
def FnExactPrimitiveUnitOfUptoSaid : Prop := fnExactPrimitiveUnitOfUptoRow.holds Try.pinned (OpenSpec.upto fnExactPrimitiveUnitOfSpec)

/-- 'laws.FnExactPowersOf', WHERE WHAT IT READS IS OF BULK AT MOST 1048576: true; the input reads as it did. -/
def fnExactPowersOfUptoRow : OpenClaim := { program := "ytlcpbdbdiahmjaa", sum := "bcdb640d1f853d34473b7854baadacc6054bd246eef387869b95a16819fa3396", func := "loop.example/finiterings/laws.FnExactPowersOf", spec := "fnExactPowersOf", unfollowed := true, recurses := true, apart := false, narrowed := true }
def FnExactPowersOfUptoSaid : Prop := fnExactPowersOfUptoRow.holds Try.pinned (OpenSpec.upto fnExactPowersOfSpec)

/-- 'laws.FnExactDividePoly', WHERE WHAT IT READS IS OF BULK AT MOST 1048576: true; the input reads as it did. -/
def fnExactDividePolyUptoRow : OpenClaim := { program := "ytlcpbdbdiahmjaa", sum := "bcdb640d1f853d34473b7854baadacc6054bd246eef387869b95a16819fa3396", func := "loop.example/finiterings/laws.FnExactDividePoly", spec := "fnExactDividePoly", unfollowed := true, recurses := true, apart := false, narrowed := true }
def FnExactDividePolyUptoSaid : Prop := fnExactDividePolyUptoRow.holds Try.pinned (OpenSpec.upto fnExactDividePolySpec)

end Rows
end Go.Proofs.Ytlcpbdbdiahmjaa
