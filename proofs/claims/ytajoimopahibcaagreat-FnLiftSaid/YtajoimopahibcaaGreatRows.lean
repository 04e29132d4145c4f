/-
  No cell of these rows narrows 'for every input' (looked for: loops, veiled, ifaces, maps, wideKeys, modest, calm, conditions, laid).
  DERIVED. THE GIVEN ROWS OF THIS SEAT. 4 by the template 'for every input the law returns true; each argument reads behind the call as it read before'; 0 by the template 'total and deterministic' (their statements: YtajoimopahibcaaGreatTotals.lean).
  GIVEN WITH THE SEED: the statements are not yours to turn. If you find one false, say at which input.
  Laid BY PROGRAM, IN A SANDBOX (cutbox-rows.mjs): the forced cells as the released guide's own fill.sh prints them over the translation ce55a8ecfcf21751… (all of the seat's roots in one cut). By AI agents, Wed Nov 11 2026. No macro, syntax, notation, axiom, sorry.
-/
import Derived.Test.YtajoimopahibcaaGreatChecked
import GoSem.Claim
import GoSem.ClaimJoined
import GoSem.ClaimMapViews
import Derived.JoinedTies
import Derived.KernelRfl
namespace Go.Proofs.YtajoimopahibcaaGreat
/- THE CELL 'sum', in the pinned program and in every row, IS THE sha256 OF THE DUMP (.gsa) THAT YtajoimopahibcaaGreatProg.lean LOADS. Nothing in Lean hashes anything: it is a label: what it is worth is what the hold of that sum in a sandbox is worth. -/
noncomputable def Tryz.pinned : Pinned := { name := "ytajoimopahibcaagreat", sum := "ce55a8ecfcf21751aac9437ca9573816bc672f7f9f90ce562b0d78c713f19a03", checked := Tryz.checked }
namespace Rows
def none {H : Type} : Left H := { results := [], args := [] }

/-- 'laws.FnPrimeIdeal': WHATEVER THE INPUT: true; the input reads as it did. -/
def fnPrimeIdealSpec : ChangeSpec := { name := "fnPrimeIdeal", fn := fun _ => fun
  | [d] => { results := [.lit (.bool true)], args := [d] }
  | _ => none }
def fnPrimeIdealRow : OpenClaim := { program := "ytajoimopahibcaagreat", sum := "ce55a8ecfcf21751aac9437ca9573816bc672f7f9f90ce562b0d78c713f19a03", func := "loop.example/finiterings/laws.FnPrimeIdeal", spec := "fnPrimeIdeal", unfollowed := true, recurses := true, plainKeys := false, apart := false }
def FnPrimeIdealSaid : Prop := fnPrimeIdealRow.holds Tryz.pinned (OpenSpec.ofChange fnPrimeIdealSpec)

/-- ITS FALSE NEIGHBOUR: 'it returns false'. Refute it at one input. -/
def fnPrimeIdealWrong : ChangeSpec := { name := "fnPrimeIdeal", fn := fun _ => fun
  | [d] => { results := [.lit (.bool false)], args := [d] }
  | _ => none }
def FnPrimeIdealWrongFalsely : Prop := fnPrimeIdealRow.holds Tryz.pinned (OpenSpec.ofChange fnPrimeIdealWrong)

/-- 'laws.FnRadical': WHATEVER THE INPUT: true; the input reads as it did. -/
def fnRadicalSpec : ChangeSpec := { name := "fnRadical", fn := fun _ => fun
  | [d] => { results := [.lit (.bool true)], args := [d] }
  | _ => none }
def fnRadicalRow : OpenClaim := { program := "ytajoimopahibcaagreat", sum := "ce55a8ecfcf21751aac9437ca9573816bc672f7f9f90ce562b0d78c713f19a03", func := "loop.example/finiterings/laws.FnRadical", spec := "fnRadical", unfollowed := true, recurses := true, plainKeys := false, apart := false }
def FnRadicalSaid : Prop := fnRadicalRow.holds Tryz.pinned (OpenSpec.ofChange fnRadicalSpec)

/-- ITS FALSE NEIGHBOUR: 'it returns false'. Refute it at one input. -/
def fnRadicalWrong : ChangeSpec := { name := "fnRadical", fn := fun _ => fun
  | [d] => { results := [.lit (.bool false)], args := [d] }
  | _ => none }
def FnRadicalWrongFalsely : Prop := fnRadicalRow.holds Tryz.pinned (OpenSpec.ofChange fnRadicalWrong)

/-- 'laws.FnQuotient': WHATEVER THE INPUT: true; the input reads as it did. -/
def fnQuotientSpec : ChangeSpec := { name := "fnQuotient", fn := fun _ => fun
  | [d] => { results := [.lit (.bool true)], args := [d] }
  | _ => none }
def fnQuotientRow : OpenClaim := { program := "ytajoimopahibcaagreat", sum := "ce55a8ecfcf21751aac9437ca9573816bc672f7f9f90ce562b0d78c713f19a03", func := "loop.example/finiterings/laws.FnQuotient", spec := "fnQuotient", unfollowed := true, recurses := true, plainKeys := false, apart := false }
def FnQuotientSaid : Prop := fnQuotientRow.holds Tryz.pinned (OpenSpec.ofChange fnQuotientSpec)

/-- ITS FALSE NEIGHBOUR: 'it returns false'. Refute it at one input. -/
def fnQuotientWrong : ChangeSpec := { name := "fnQuotient", fn := fun _ => fun
  | [d] => { results := [.lit (.bool false)], args := [d] }
  | _ => none }
def FnQuotientWrongFalsely : Prop := fnQuotientRow.holds Tryz.pinned (OpenSpec.ofChange fnQuotientWrong)

/-- 'laws.FnLift': WHATEVER THE INPUT: true; the input reads as it did. -/
def fnLiftSpec : ChangeSpec := { name := "fnLift", fn := fun _ => fun
  | [d] => { results := [.lit (.bool true)], args := [d] }
  | _ => none }
def fnLiftRow : OpenClaim := { program := "ytajoimopahibcaagreat", sum := "ce55a8ecfcf21751aac9437ca9573816bc672f7f9f90ce562b0d78c713f19a03", func := "loop.example/finiterings/laws.FnLift", spec := "fnLift", unfollowed := true, recurses := true, plainKeys := false, apart := false }
def FnLiftSaid : Prop := fnLiftRow.holds Tryz.pinned (OpenSpec.ofChange fnLiftSpec)

/-- ITS FALSE NEIGHBOUR: 'it returns false'. Refute it at one input. -/
def fnLiftWrong : ChangeSpec := { name := "fnLift", fn := fun _ => fun
  | [d] => { results := [.lit (.bool false)], args := [d] }
  | _ => none }
def FnLiftWrongFalsely : Prop := fnLiftRow.holds Tryz.pinned (OpenSpec.ofChange fnLiftWrong)

/- THE SECOND FORM. 'bulk': how many values and letters a reading holds, each counted each time it is reached (what is shared counts as often as it is met; a slice's spare places count too). A statement '..UptoSaid' is the law's where the arguments, and the package variables that the reading takes, are together of bulk at most 1048576: NARROWER than '..Said'. Prove '..Said' where nothing that the law and all that it calls make is longer than what came in: it says more and counts as full. Else prove '..UptoSaid'. A law counts once. -/
mutual
def uptoBulk {H : Type} : DataW H → Nat
  | .lit (.string bytes) => bytes.length + 1
  | .lit _ => 1
  | .nil => 1
  | .ptr d => uptoBulk d + 1
  | .slice elems spare => uptoBulkAll elems + uptoBulkAll spare + 1
  | .agg parts => uptoBulkAll parts + 1
  | .iface _ d => uptoBulk d + 1
  | .map entries => uptoBulkEntries entries + 1
  | .held _ => 1
def uptoBulkAll {H : Type} : List (DataW H) → Nat
  | [] => 0
  | d :: r => uptoBulk d + uptoBulkAll r
def uptoBulkEntries {H : Type} : List (Lit × DataW H) → Nat
  | [] => 0
  | x :: r => uptoBulkEntry x + uptoBulkEntries r
def uptoBulkEntry {H : Type} : Lit × DataW H → Nat
  | (.string bytes, d) => bytes.length + uptoBulk d + 1
  | (_, d) => uptoBulk d + 1
 end
def uptoSmall : (H : Type) → List (DataW H) → Bool := fun _ ds => decide (uptoBulkAll ds ≤ 1048576)
def OpenSpec.upto (s : _root_.Go.ChangeSpec) : _root_.Go.OpenSpec := { _root_.Go.OpenSpec.ofChange s with cond := some uptoSmall }

/-- 'laws.FnPrimeIdeal', WHERE WHAT IT READS IS OF BULK AT MOST 1048576: true; the input reads as it did. -/
def fnPrimeIdealUptoRow : OpenClaim := { program := "ytajoimopahibcaagreat", sum := "ce55a8ecfcf21751aac9437ca9573816bc672f7f9f90ce562b0d78c713f19a03", func := "loop.example/finiterings/laws.FnPrimeIdeal", spec := "fnPrimeIdeal", unfollowed := true, recurses := true, plainKeys := false, apart := false, narrowed := true }
def FnPrimeIdealUptoSaid : Prop := fnPrimeIdealUptoRow.holds Tryz.pinned (OpenSpec.upto fnPrimeIdealSpec)

/-- 'laws.FnRadical', WHERE WHAT IT READS IS OF BULK AT MOST 1048576: true; the input reads as it did. -/
def fnRadicalUptoRow : OpenClaim := { program := "ytajoimopahibcaagreat", sum := "ce55a8ecfcf21751aac9437ca9573816bc672f7f9f90ce562b0d78c713f19a03", func := "loop.example/finiterings/laws.FnRadical", spec := "fnRadical", unfollowed := true, recurses := true, plainKeys := false, apart := false, narrowed := true }
def FnRadicalUptoSaid : Prop := fnRadicalUptoRow.holds Tryz.pinned (OpenSpec.upto fnRadicalSpec)

/-- 'laws.FnQuotient', WHERE WHAT IT READS IS OF BULK AT MOST 1048576: true; the input reads as it did. -/
def fnQuotientUptoRow : OpenClaim := { program := "ytajoimopahibcaagreat", sum := "ce55a8ecfcf21751aac9437ca9573816bc672f7f9f90ce562b0d78c713f19a03", func := "loop.example/finiterings/laws.FnQuotient", spec := "fnQuotient", unfollowed := true, recurses := true, plainKeys := false, apart := false, narrowed := true }
def FnQuotientUptoSaid : Prop := fnQuotientUptoRow.holds Tryz.pinned (OpenSpec.upto fnQuotientSpec)

/-- 'laws.FnLift', WHERE WHAT IT READS IS OF BULK AT MOST 1048576: true; the input reads as it did. -/
def fnLiftUptoRow : OpenClaim := { program := "ytajoimopahibcaagreat", sum := "ce55a8ecfcf21751aac9437ca9573816bc672f7f9f90ce562b0d78c713f19a03", func := "loop.example/finiterings/laws.FnLift", spec := "fnLift", unfollowed := true, recurses := true, plainKeys := false, apart := false, narrowed := true }
def FnLiftUptoSaid : Prop := fnLiftUptoRow.holds Tryz.pinned (OpenSpec.upto fnLiftSpec)

end Rows
end Go.Proofs.YtajoimopahibcaaGreat
