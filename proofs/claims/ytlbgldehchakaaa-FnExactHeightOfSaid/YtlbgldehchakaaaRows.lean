/-
  No cell of these rows narrows 'for every input' (looked for: loops, veiled, ifaces, maps, wideKeys, modest, calm, conditions, laid).
  DERIVED. THE GIVEN ROWS OF THIS SEAT. 11 by the template 'for every input the law returns true; each argument reads behind the call as it read before'; 0 by the template 'total and deterministic' (their statements: YtlbgldehchakaaaTotals.lean).
  GIVEN WITH THE SEED: the statements are not yours to turn. If you find one false, say at which input.
  Laid BY PROGRAM, IN A SANDBOX (cutbox-rows.mjs): the forced cells as the released guide's own fill.sh prints them over the translation 919edce16671ba9c… (all of the seat's roots in one cut). By AI agents, Wed Nov 11 2026. No macro, syntax, notation, axiom, sorry.
-/
import Derived.Test.YtlbgldehchakaaaChecked
import GoSem.Claim
import GoSem.ClaimJoined
import GoSem.ClaimMapViews
import Derived.JoinedTies
import Derived.KernelRfl
namespace Go.Proofs.Ytlbgldehchakaaa
/- THE CELL 'sum', in the pinned program and in every row, IS THE sha256 OF THE DUMP (.gsa) THAT YtlbgldehchakaaaProg.lean LOADS. Nothing in Lean hashes anything: it is a label: what it is worth is what the hold of that sum in a sandbox is worth. -/
noncomputable def Try.pinned : Pinned := { name := "ytlbgldehchakaaa", sum := "919edce16671ba9ca982dee395995ec96e6b516bb54ac8df561064a6f3007781", checked := Try.checked }
namespace Rows
def none {H : Type} : Left H := { results := [], args := [] }

/-- 'laws.FnExactPrimitivesOf': WHATEVER THE INPUT: true; the input reads as it did. -/
def fnExactPrimitivesOfSpec : ChangeSpec := { name := "fnExactPrimitivesOf", fn := fun _ => fun
  | [d] => { results := [.lit (.bool true)], args := [d] }
  | _ => none }
def fnExactPrimitivesOfRow : OpenClaim := { program := "ytlbgldehchakaaa", sum := "919edce16671ba9ca982dee395995ec96e6b516bb54ac8df561064a6f3007781", func := "loop.example/finiterings/laws.FnExactPrimitivesOf", spec := "fnExactPrimitivesOf", unfollowed := true, recurses := true, plainKeys := false, apart := false }
def FnExactPrimitivesOfSaid : Prop := fnExactPrimitivesOfRow.holds Try.pinned (OpenSpec.ofChange fnExactPrimitivesOfSpec)

/-- ITS FALSE NEIGHBOUR: 'it returns false'. Refute it at one input. -/
def fnExactPrimitivesOfWrong : ChangeSpec := { name := "fnExactPrimitivesOf", fn := fun _ => fun
  | [d] => { results := [.lit (.bool false)], args := [d] }
  | _ => none }
def FnExactPrimitivesOfWrongFalsely : Prop := fnExactPrimitivesOfRow.holds Try.pinned (OpenSpec.ofChange fnExactPrimitivesOfWrong)

/-- 'laws.FnExactHeightOf': WHATEVER THE INPUT: true; the input reads as it did. -/
def fnExactHeightOfSpec : ChangeSpec := { name := "fnExactHeightOf", fn := fun _ => fun
  | [d] => { results := [.lit (.bool true)], args := [d] }
  | _ => none }
def fnExactHeightOfRow : OpenClaim := { program := "ytlbgldehchakaaa", sum := "919edce16671ba9ca982dee395995ec96e6b516bb54ac8df561064a6f3007781", func := "loop.example/finiterings/laws.FnExactHeightOf", spec := "fnExactHeightOf", unfollowed := true, recurses := true, plainKeys := false, apart := false }
def FnExactHeightOfSaid : Prop := fnExactHeightOfRow.holds Try.pinned (OpenSpec.ofChange fnExactHeightOfSpec)

/-- ITS FALSE NEIGHBOUR: 'it returns false'. Refute it at one input. -/
def fnExactHeightOfWrong : ChangeSpec := { name := "fnExactHeightOf", fn := fun _ => fun
  | [d] => { results := [.lit (.bool false)], args := [d] }
  | _ => none }
def FnExactHeightOfWrongFalsely : Prop := fnExactHeightOfRow.holds Try.pinned (OpenSpec.ofChange fnExactHeightOfWrong)

/-- 'laws.FnExactCornerRing': WHATEVER THE INPUT: true; the input reads as it did. -/
def fnExactCornerRingSpec : ChangeSpec := { name := "fnExactCornerRing", fn := fun _ => fun
  | [d1, d2] => { results := [.lit (.bool true)], args := [d1, d2] }
  | _ => none }
def fnExactCornerRingRow : OpenClaim := { program := "ytlbgldehchakaaa", sum := "919edce16671ba9ca982dee395995ec96e6b516bb54ac8df561064a6f3007781", func := "loop.example/finiterings/laws.FnExactCornerRing", spec := "fnExactCornerRing", unfollowed := true, recurses := true, plainKeys := false, apart := false }
def FnExactCornerRingSaid : Prop := fnExactCornerRingRow.holds Try.pinned (OpenSpec.ofChange fnExactCornerRingSpec)

/-- ITS FALSE NEIGHBOUR: 'it returns false'. Refute it at one input. -/
def fnExactCornerRingWrong : ChangeSpec := { name := "fnExactCornerRing", fn := fun _ => fun
  | [d1, d2] => { results := [.lit (.bool false)], args := [d1, d2] }
  | _ => none }
def FnExactCornerRingWrongFalsely : Prop := fnExactCornerRingRow.holds Try.pinned (OpenSpec.ofChange fnExactCornerRingWrong)

/-- 'laws.FnExactPartsOf': WHATEVER THE INPUT: true; the input reads as it did. -/
def fnExactPartsOfSpec : ChangeSpec := { name := "fnExactPartsOf", fn := fun _ => fun
  | [d1, d2] => { results := [.lit (.bool true)], args := [d1, d2] }
  | _ => none }
def fnExactPartsOfRow : OpenClaim := { program := "ytlbgldehchakaaa", sum := "919edce16671ba9ca982dee395995ec96e6b516bb54ac8df561064a6f3007781", func := "loop.example/finiterings/laws.FnExactPartsOf", spec := "fnExactPartsOf", inPlace := ["sync/atomic.LoadUint32", "(*internal/sync.Mutex).Lock", "internal/race.Disable", "sync/atomic.CompareAndSwapInt32", "internal/race.Enable", "internal/race.Acquire", "(*internal/sync.Mutex).lockSlow", "internal/sync.runtime_canSpin", "internal/sync.runtime_doSpin", "internal/sync.throw", "internal/sync.runtime_nanotime", "internal/sync.runtime_SemacquireMutex", "sync/atomic.AddInt32", "(*internal/sync.Mutex).Unlock", "internal/race.ReleaseMerge", "(*internal/sync.Mutex).unlockSlow", "internal/sync.fatal", "internal/sync.runtime_Semrelease", "sync/atomic.StoreUint32"], unfollowed := true, recurses := true, plainKeys := false, apart := false }
def FnExactPartsOfSaid : Prop := fnExactPartsOfRow.holds Try.pinned (OpenSpec.ofChange fnExactPartsOfSpec)

/-- ITS FALSE NEIGHBOUR: 'it returns false'. Refute it at one input. -/
def fnExactPartsOfWrong : ChangeSpec := { name := "fnExactPartsOf", fn := fun _ => fun
  | [d1, d2] => { results := [.lit (.bool false)], args := [d1, d2] }
  | _ => none }
def FnExactPartsOfWrongFalsely : Prop := fnExactPartsOfRow.holds Try.pinned (OpenSpec.ofChange fnExactPartsOfWrong)

/-- 'laws.FnExactJoinParts': WHATEVER THE INPUT: true; the input reads as it did. -/
def fnExactJoinPartsSpec : ChangeSpec := { name := "fnExactJoinParts", fn := fun _ => fun
  | [d1, d2] => { results := [.lit (.bool true)], args := [d1, d2] }
  | _ => none }
def fnExactJoinPartsRow : OpenClaim := { program := "ytlbgldehchakaaa", sum := "919edce16671ba9ca982dee395995ec96e6b516bb54ac8df561064a6f3007781", func := "loop.example/finiterings/laws.FnExactJoinParts", spec := "fnExactJoinParts", inPlace := ["sync/atomic.LoadUint32", "(*internal/sync.Mutex).Lock", "internal/race.Disable", "sync/atomic.CompareAndSwapInt32", "internal/race.Enable", "internal/race.Acquire", "(*internal/sync.Mutex).lockSlow", "internal/sync.runtime_canSpin", "internal/sync.runtime_doSpin", "internal/sync.throw", "internal/sync.runtime_nanotime", "internal/sync.runtime_SemacquireMutex", "sync/atomic.AddInt32", "(*internal/sync.Mutex).Unlock", "internal/race.ReleaseMerge", "(*internal/sync.Mutex).unlockSlow", "internal/sync.fatal", "internal/sync.runtime_Semrelease", "sync/atomic.StoreUint32"], unfollowed := true, recurses := true, plainKeys := false, apart := false }
def FnExactJoinPartsSaid : Prop := fnExactJoinPartsRow.holds Try.pinned (OpenSpec.ofChange fnExactJoinPartsSpec)

/-- ITS FALSE NEIGHBOUR: 'it returns false'. Refute it at one input. -/
def fnExactJoinPartsWrong : ChangeSpec := { name := "fnExactJoinParts", fn := fun _ => fun
  | [d1, d2] => { results := [.lit (.bool false)], args := [d1, d2] }
  | _ => none }
def FnExactJoinPartsWrongFalsely : Prop := fnExactJoinPartsRow.holds Try.pinned (OpenSpec.ofChange fnExactJoinPartsWrong)

/-- 'laws.FnExactAllIdeals': WHATEVER THE INPUT: true; the input reads as it did. -/
def fnExactAllIdealsSpec : ChangeSpec := { name := "fnExactAllIdeals", fn := fun _ => fun
  | [d] => { results := [.lit (.bool true)], args := [d] }
  | _ => none }
def fnExactAllIdealsRow : OpenClaim := { program := "ytlbgldehchakaaa", sum := "919edce16671ba9ca982dee395995ec96e6b516bb54ac8df561064a6f3007781", func := "loop.example/finiterings/laws.FnExactAllIdeals", spec := "fnExactAllIdeals", unfollowed := true, recurses := true, plainKeys := false, apart := false }
def FnExactAllIdealsSaid : Prop := fnExactAllIdealsRow.holds Try.pinned (OpenSpec.ofChange fnExactAllIdealsSpec)

/-- ITS FALSE NEIGHBOUR: 'it returns false'. Refute it at one input. -/
def fnExactAllIdealsWrong : ChangeSpec := { name := "fnExactAllIdeals", fn := fun _ => fun
  | [d] => { results := [.lit (.bool false)], args := [d] }
  | _ => none }
def FnExactAllIdealsWrongFalsely : Prop := fnExactAllIdealsRow.holds Try.pinned (OpenSpec.ofChange fnExactAllIdealsWrong)

/-- 'laws.FnExactResidueSizes': WHATEVER THE INPUT: true; the input reads as it did. -/
def fnExactResidueSizesSpec : ChangeSpec := { name := "fnExactResidueSizes", fn := fun _ => fun
  | [d] => { results := [.lit (.bool true)], args := [d] }
  | _ => none }
def fnExactResidueSizesRow : OpenClaim := { program := "ytlbgldehchakaaa", sum := "919edce16671ba9ca982dee395995ec96e6b516bb54ac8df561064a6f3007781", func := "loop.example/finiterings/laws.FnExactResidueSizes", spec := "fnExactResidueSizes", unfollowed := true, recurses := true, plainKeys := false, apart := false }
def FnExactResidueSizesSaid : Prop := fnExactResidueSizesRow.holds Try.pinned (OpenSpec.ofChange fnExactResidueSizesSpec)

/-- ITS FALSE NEIGHBOUR: 'it returns false'. Refute it at one input. -/
def fnExactResidueSizesWrong : ChangeSpec := { name := "fnExactResidueSizes", fn := fun _ => fun
  | [d] => { results := [.lit (.bool false)], args := [d] }
  | _ => none }
def FnExactResidueSizesWrongFalsely : Prop := fnExactResidueSizesRow.holds Try.pinned (OpenSpec.ofChange fnExactResidueSizesWrong)

/-- 'laws.FnExactIsLocal': WHATEVER THE INPUT: true; the input reads as it did. -/
def fnExactIsLocalSpec : ChangeSpec := { name := "fnExactIsLocal", fn := fun _ => fun
  | [d] => { results := [.lit (.bool true)], args := [d] }
  | _ => none }
def fnExactIsLocalRow : OpenClaim := { program := "ytlbgldehchakaaa", sum := "919edce16671ba9ca982dee395995ec96e6b516bb54ac8df561064a6f3007781", func := "loop.example/finiterings/laws.FnExactIsLocal", spec := "fnExactIsLocal", unfollowed := true, recurses := true, plainKeys := false, apart := false }
def FnExactIsLocalSaid : Prop := fnExactIsLocalRow.holds Try.pinned (OpenSpec.ofChange fnExactIsLocalSpec)

/-- ITS FALSE NEIGHBOUR: 'it returns false'. Refute it at one input. -/
def fnExactIsLocalWrong : ChangeSpec := { name := "fnExactIsLocal", fn := fun _ => fun
  | [d] => { results := [.lit (.bool false)], args := [d] }
  | _ => none }
def FnExactIsLocalWrongFalsely : Prop := fnExactIsLocalRow.holds Try.pinned (OpenSpec.ofChange fnExactIsLocalWrong)

/-- 'laws.FnProductIdeal': WHATEVER THE INPUT: true; the input reads as it did. -/
def fnProductIdealSpec : ChangeSpec := { name := "fnProductIdeal", fn := fun _ => fun
  | [d] => { results := [.lit (.bool true)], args := [d] }
  | _ => none }
def fnProductIdealRow : OpenClaim := { program := "ytlbgldehchakaaa", sum := "919edce16671ba9ca982dee395995ec96e6b516bb54ac8df561064a6f3007781", func := "loop.example/finiterings/laws.FnProductIdeal", spec := "fnProductIdeal", unfollowed := true, recurses := true, plainKeys := false, apart := false }
def FnProductIdealSaid : Prop := fnProductIdealRow.holds Try.pinned (OpenSpec.ofChange fnProductIdealSpec)

/-- ITS FALSE NEIGHBOUR: 'it returns false'. Refute it at one input. -/
def fnProductIdealWrong : ChangeSpec := { name := "fnProductIdeal", fn := fun _ => fun
  | [d] => { results := [.lit (.bool false)], args := [d] }
  | _ => none }
def FnProductIdealWrongFalsely : Prop := fnProductIdealRow.holds Try.pinned (OpenSpec.ofChange fnProductIdealWrong)

/-- 'laws.FnColon': WHATEVER THE INPUT: true; the input reads as it did. -/
def fnColonSpec : ChangeSpec := { name := "fnColon", fn := fun _ => fun
  | [d] => { results := [.lit (.bool true)], args := [d] }
  | _ => none }
def fnColonRow : OpenClaim := { program := "ytlbgldehchakaaa", sum := "919edce16671ba9ca982dee395995ec96e6b516bb54ac8df561064a6f3007781", func := "loop.example/finiterings/laws.FnColon", spec := "fnColon", unfollowed := true, recurses := true, plainKeys := false, apart := false }
def FnColonSaid : Prop := fnColonRow.holds Try.pinned (OpenSpec.ofChange fnColonSpec)

/-- ITS FALSE NEIGHBOUR: 'it returns false'. Refute it at one input. -/
def fnColonWrong : ChangeSpec := { name := "fnColon", fn := fun _ => fun
  | [d] => { results := [.lit (.bool false)], args := [d] }
  | _ => none }
def FnColonWrongFalsely : Prop := fnColonRow.holds Try.pinned (OpenSpec.ofChange fnColonWrong)

/-- 'laws.FnSumMeet': WHATEVER THE INPUT: true; the input reads as it did. -/
def fnSumMeetSpec : ChangeSpec := { name := "fnSumMeet", fn := fun _ => fun
  | [d] => { results := [.lit (.bool true)], args := [d] }
  | _ => none }
def fnSumMeetRow : OpenClaim := { program := "ytlbgldehchakaaa", sum := "919edce16671ba9ca982dee395995ec96e6b516bb54ac8df561064a6f3007781", func := "loop.example/finiterings/laws.FnSumMeet", spec := "fnSumMeet", unfollowed := true, recurses := true, plainKeys := false, apart := false }
def FnSumMeetSaid : Prop := fnSumMeetRow.holds Try.pinned (OpenSpec.ofChange fnSumMeetSpec)

/-- ITS FALSE NEIGHBOUR: 'it returns false'. Refute it at one input. -/
def fnSumMeetWrong : ChangeSpec := { name := "fnSumMeet", fn := fun _ => fun
  | [d] => { results := [.lit (.bool false)], args := [d] }
  | _ => none }
def FnSumMeetWrongFalsely : Prop := fnSumMeetRow.holds Try.pinned (OpenSpec.ofChange fnSumMeetWrong)

/- THE SECOND FORM. 'bulk': how many values and letters a reading holds, each counted each time it is reached (what is shared counts as often as it is met; a slice's spare places count too). A statement '..UptoSaid' is the law's where the arguments, and the package variables that the reading takes, are together of bulk at most 1048576: NARROWER than '..Said'. Prove '..Said' where nothing that the law and all that it calls make is longer than what came in: it says more and counts as full. Else prove '..UptoSaid'. A law counts once. -/
mutual
def uptoBulk {H : Type} : DataW H → Nat
  | .lit (.string bytes) => bytes.length + 1
  | .lit _ => 1
  | .nil => 1
  | .ptr d => uptoBulk d + 1
  | .slice elems spare => uptoBulkAll elems + uptoBulkAll spare + 1
  | .agg parts => uptoBulkAll parts + 1
  | .iface _ d => uptoBulk d + 1
  | .map entries => uptoBulkEntries entries + 1
  | .held _ => 1
def uptoBulkAll {H : Type} : List (DataW H) → Nat
  | [] => 0
  | d :: r => uptoBulk d + uptoBulkAll r
def uptoBulkEntries {H : Type} : List (Lit × DataW H) → Nat
  | [] => 0
  | x :: r => uptoBulkEntry x + uptoBulkEntries r
def uptoBulkEntry {H : Type} : Lit × DataW H → Nat
  | (.string bytes, d) => bytes.length + uptoBulk d + 1
  | (_, d) => uptoBulk d + 1
 end
def uptoSmall : (H : Type) → List (DataW H) → Bool := fun _ ds => decide (uptoBulkAll ds ≤ 1048576)
def OpenSpec.upto (s : _root_.Go.ChangeSpec) : _root_.Go.OpenSpec := { _root_.Go.OpenSpec.ofChange s with cond := some uptoSmall }

/-- 'laws.FnExactPrimitivesOf', WHERE WHAT IT READS IS OF BULK AT MOST 1048576: true; the input reads as it did. -/
def fnExactPrimitivesOfUptoRow : OpenClaim := { program := "ytlbgldehchakaaa", sum := "919edce16671ba9ca982dee395995ec96e6b516bb54ac8df561064a6f3007781", func := "loop.example/finiterings/laws.FnExactPrimitivesOf", spec := "fnExactPrimitivesOf", unfollowed := true, recurses := true, plainKeys := false, apart := false, narrowed := true }
def FnExactPrimitivesOfUptoSaid : Prop := fnExactPrimitivesOfUptoRow.holds Try.pinned (OpenSpec.upto fnExactPrimitivesOfSpec)

/-- 'laws.FnExactHeightOf', WHERE WHAT IT READS IS OF BULK AT MOST 1048576: true; the input reads as it did. -/
def fnExactHeightOfUptoRow : OpenClaim := { program := "ytlbgldehchakaaa", sum := "919edce16671ba9ca982dee395995ec96e6b516bb54ac8df561064a6f3007781", func := "loop.example/finiterings/laws.FnExactHeightOf", spec := "fnExactHeightOf", unfollowed := true, recurses := true, plainKeys := false, apart := false, narrowed := true }
def FnExactHeightOfUptoSaid : Prop := fnExactHeightOfUptoRow.holds Try.pinned (OpenSpec.upto fnExactHeightOfSpec)

/-- 'laws.FnExactCornerRing', WHERE WHAT IT READS IS OF BULK AT MOST 1048576: true; the input reads as it did. -/
def fnExactCornerRingUptoRow : OpenClaim := { program := "ytlbgldehchakaaa", sum := "919edce16671ba9ca982dee395995ec96e6b516bb54ac8df561064a6f3007781", func := "loop.example/finiterings/laws.FnExactCornerRing", spec := "fnExactCornerRing", unfollowed := true, recurses := true, plainKeys := false, apart := false, narrowed := true }
def FnExactCornerRingUptoSaid : Prop := fnExactCornerRingUptoRow.holds Try.pinned (OpenSpec.upto fnExactCornerRingSpec)

/-- 'laws.FnExactPartsOf', WHERE WHAT IT READS IS OF BULK AT MOST 1048576: true; the input reads as it did. -/
def fnExactPartsOfUptoRow : OpenClaim := { program := "ytlbgldehchakaaa", sum := "919edce16671ba9ca982dee395995ec96e6b516bb54ac8df561064a6f3007781", func := "loop.example/finiterings/laws.FnExactPartsOf", spec := "fnExactPartsOf", inPlace := ["sync/atomic.LoadUint32", "(*internal/sync.Mutex).Lock", "internal/race.Disable", "sync/atomic.CompareAndSwapInt32", "internal/race.Enable", "internal/race.Acquire", "(*internal/sync.Mutex).lockSlow", "internal/sync.runtime_canSpin", "internal/sync.runtime_doSpin", "internal/sync.throw", "internal/sync.runtime_nanotime", "internal/sync.runtime_SemacquireMutex", "sync/atomic.AddInt32", "(*internal/sync.Mutex).Unlock", "internal/race.ReleaseMerge", "(*internal/sync.Mutex).unlockSlow", "internal/sync.fatal", "internal/sync.runtime_Semrelease", "sync/atomic.StoreUint32"], unfollowed := true, recurses := true, plainKeys := false, apart := false, narrowed := true }
def FnExactPartsOfUptoSaid : Prop := fnExactPartsOfUptoRow.holds Try.pinned (OpenSpec.upto fnExactPartsOfSpec)

/-- 'laws.FnExactJoinParts', WHERE WHAT IT READS IS OF BULK AT MOST 1048576: true; the input reads as it did. -/
def fnExactJoinPartsUptoRow : OpenClaim := { program := "ytlbgldehchakaaa", sum := "919edce16671ba9ca982dee395995ec96e6b516bb54ac8df561064a6f3007781", func := "loop.example/finiterings/laws.FnExactJoinParts", spec := "fnExactJoinParts", inPlace := ["sync/atomic.LoadUint32", "(*internal/sync.Mutex).Lock", "internal/race.Disable", "sync/atomic.CompareAndSwapInt32", "internal/race.Enable", "internal/race.Acquire", "(*internal/sync.Mutex).lockSlow", "internal/sync.runtime_canSpin", "internal/sync.runtime_doSpin", "internal/sync.throw", "internal/sync.runtime_nanotime", "internal/sync.runtime_SemacquireMutex", "sync/atomic.AddInt32", "(*internal/sync.Mutex).Unlock", "internal/race.ReleaseMerge", "(*internal/sync.Mutex).unlockSlow", "internal/sync.fatal", "internal/sync.runtime_Semrelease", "sync/atomic.StoreUint32"], unfollowed := true, recurses := true, plainKeys := false, apart := false, narrowed := true }
def FnExactJoinPartsUptoSaid : Prop := fnExactJoinPartsUptoRow.holds Try.pinned (OpenSpec.upto fnExactJoinPartsSpec)

/-- 'laws.FnExactAllIdeals', WHERE WHAT IT READS IS OF BULK AT MOST 1048576: true; the input reads as it did. -/
def fnExactAllIdealsUptoRow : OpenClaim := { program := "ytlbgldehchakaaa", sum := "919edce16671ba9ca982dee395995ec96e6b516bb54ac8df561064a6f3007781", func := "loop.example/finiterings/laws.FnExactAllIdeals", spec := "fnExactAllIdeals", unfollowed := true, recurses := true, plainKeys := false, apart := false, narrowed := true }
def FnExactAllIdealsUptoSaid : Prop := fnExactAllIdealsUptoRow.holds Try.pinned (OpenSpec.upto fnExactAllIdealsSpec)

/-- 'laws.FnExactResidueSizes', WHERE WHAT IT READS IS OF BULK AT MOST 1048576: true; the input reads as it did. -/
def fnExactResidueSizesUptoRow : OpenClaim := { program := "ytlbgldehchakaaa", sum := "919edce16671ba9ca982dee395995ec96e6b516bb54ac8df561064a6f3007781", func := "loop.example/finiterings/laws.FnExactResidueSizes", spec := "fnExactResidueSizes", unfollowed := true, recurses := true, plainKeys := false, apart := false, narrowed := true }
def FnExactResidueSizesUptoSaid : Prop := fnExactResidueSizesUptoRow.holds Try.pinned (OpenSpec.upto fnExactResidueSizesSpec)

/-- 'laws.FnExactIsLocal', WHERE WHAT IT READS IS OF BULK AT MOST 1048576: true; the input reads as it did. -/
def fnExactIsLocalUptoRow : OpenClaim := { program := "ytlbgldehchakaaa", sum := "919edce16671ba9ca982dee395995ec96e6b516bb54ac8df561064a6f3007781", func := "loop.example/finiterings/laws.FnExactIsLocal", spec := "fnExactIsLocal", unfollowed := true, recurses := true, plainKeys := false, apart := false, narrowed := true }
def FnExactIsLocalUptoSaid : Prop := fnExactIsLocalUptoRow.holds Try.pinned (OpenSpec.upto fnExactIsLocalSpec)

/-- 'laws.FnProductIdeal', WHERE WHAT IT READS IS OF BULK AT MOST 1048576: true; the input reads as it did. -/
def fnProductIdealUptoRow : OpenClaim := { program := "ytlbgldehchakaaa", sum := "919edce16671ba9ca982dee395995ec96e6b516bb54ac8df561064a6f3007781", func := "loop.example/finiterings/laws.FnProductIdeal", spec := "fnProductIdeal", unfollowed := true, recurses := true, plainKeys := false, apart := false, narrowed := true }
def FnProductIdealUptoSaid : Prop := fnProductIdealUptoRow.holds Try.pinned (OpenSpec.upto fnProductIdealSpec)

/-- 'laws.FnColon', WHERE WHAT IT READS IS OF BULK AT MOST 1048576: true; the input reads as it did. -/
def fnColonUptoRow : OpenClaim := { program := "ytlbgldehchakaaa", sum := "919edce16671ba9ca982dee395995ec96e6b516bb54ac8df561064a6f3007781", func := "loop.example/finiterings/laws.FnColon", spec := "fnColon", unfollowed := true, recurses := true, plainKeys := false, apart := false, narrowed := true }
def FnColonUptoSaid : Prop := fnColonUptoRow.holds Try.pinned (OpenSpec.upto fnColonSpec)

/-- 'laws.FnSumMeet', WHERE WHAT IT READS IS OF BULK AT MOST 1048576: true; the input reads as it did. -/
def fnSumMeetUptoRow : OpenClaim := { program := "ytlbgldehchakaaa", sum := "919edce16671ba9ca982dee395995ec96e6b516bb54ac8df561064a6f3007781", func := "loop.example/finiterings/laws.FnSumMeet", spec := "fnSumMeet", unfollowed := true, recurses := true, plainKeys := false, apart := false, narrowed := true }
def FnSumMeetUptoSaid : Prop := fnSumMeetUptoRow.holds Try.pinned (OpenSpec.upto fnSumMeetSpec)

end Rows
end Go.Proofs.Ytlbgldehchakaaa
