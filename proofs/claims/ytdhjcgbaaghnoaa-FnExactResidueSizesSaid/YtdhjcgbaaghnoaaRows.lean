/-
  NARROWER THAN 'FOR EVERY INPUT', by the rows' own cells (each row's printed sentence says how): FnExactPartsOf: calm.
  DERIVED. THE GIVEN ROWS OF THIS SEAT. 11 by the template 'for every input the law returns true; each argument reads behind the call as it read before'; 0 by the template 'total and deterministic' (their statements: YtdhjcgbaaghnoaaTotals.lean).
  GIVEN WITH THE SEED: the statements are not yours to turn. If you find one false, say at which input.
  Laid BY PROGRAM, IN A SANDBOX (cutbox-rows.mjs): the forced cells as the released guide's own fill.sh prints them over the translation d72c83832eb64d32… (all of the seat's roots in one cut). By AI agents, Wed Nov 11 2026. No macro, syntax, notation, axiom, sorry.
-/
import Derived.Test.YtdhjcgbaaghnoaaChecked
import GoSem.Claim
import GoSem.ClaimJoined
import GoSem.ClaimMapViews
import Derived.JoinedTies
import Derived.KernelRfl
namespace Go.Proofs.Ytdhjcgbaaghnoaa
/- THE CELL 'sum', in the pinned program and in every row, IS THE sha256 OF THE DUMP (.gsa) THAT YtdhjcgbaaghnoaaProg.lean LOADS. Nothing in Lean hashes anything: it is a label: what it is worth is what the hold of that sum in a sandbox is worth. -/
noncomputable def Try.pinned : Pinned := { name := "ytdhjcgbaaghnoaa", sum := "d72c83832eb64d327aa185e411edff5684fff2104f981a8d65e126ce1ded433c", checked := Try.checked }
namespace Rows
def none {H : Type} : Left H := { results := [], args := [] }

/-- 'laws.FnExactAreComaximal': WHATEVER THE INPUT: true; the input reads as it did. -/
def fnExactAreComaximalSpec : ChangeSpec := { name := "fnExactAreComaximal", fn := fun _ => fun
  | [d1, d2, d3] => { results := [.lit (.bool true)], args := [d1, d2, d3] }
  | _ => none }
def fnExactAreComaximalRow : OpenClaim := { program := "ytdhjcgbaaghnoaa", sum := "d72c83832eb64d327aa185e411edff5684fff2104f981a8d65e126ce1ded433c", func := "loop.example/finiterings/laws.FnExactAreComaximal", spec := "fnExactAreComaximal", unfollowed := true, recurses := true, plainKeys := false, leaving := true, apart := false }
def FnExactAreComaximalSaid : Prop := fnExactAreComaximalRow.holds Try.pinned (OpenSpec.ofChange fnExactAreComaximalSpec)

/-- ITS FALSE NEIGHBOUR: 'it returns false'. Refute it at one input. -/
def fnExactAreComaximalWrong : ChangeSpec := { name := "fnExactAreComaximal", fn := fun _ => fun
  | [d1, d2, d3] => { results := [.lit (.bool false)], args := [d1, d2, d3] }
  | _ => none }
def FnExactAreComaximalWrongFalsely : Prop := fnExactAreComaximalRow.holds Try.pinned (OpenSpec.ofChange fnExactAreComaximalWrong)

/-- 'laws.FnExactSolveLinear': WHATEVER THE INPUT: true; the input reads as it did. -/
def fnExactSolveLinearSpec : ChangeSpec := { name := "fnExactSolveLinear", fn := fun _ => fun
  | [d1, d2, d3] => { results := [.lit (.bool true)], args := [d1, d2, d3] }
  | _ => none }
def fnExactSolveLinearRow : OpenClaim := { program := "ytdhjcgbaaghnoaa", sum := "d72c83832eb64d327aa185e411edff5684fff2104f981a8d65e126ce1ded433c", func := "loop.example/finiterings/laws.FnExactSolveLinear", spec := "fnExactSolveLinear", unfollowed := true, recurses := true, plainKeys := false, leaving := true, apart := false }
def FnExactSolveLinearSaid : Prop := fnExactSolveLinearRow.holds Try.pinned (OpenSpec.ofChange fnExactSolveLinearSpec)

/-- ITS FALSE NEIGHBOUR: 'it returns false'. Refute it at one input. -/
def fnExactSolveLinearWrong : ChangeSpec := { name := "fnExactSolveLinear", fn := fun _ => fun
  | [d1, d2, d3] => { results := [.lit (.bool false)], args := [d1, d2, d3] }
  | _ => none }
def FnExactSolveLinearWrongFalsely : Prop := fnExactSolveLinearRow.holds Try.pinned (OpenSpec.ofChange fnExactSolveLinearWrong)

/-- 'laws.FnExactAllSolutions': WHATEVER THE INPUT: true; the input reads as it did. -/
def fnExactAllSolutionsSpec : ChangeSpec := { name := "fnExactAllSolutions", fn := fun _ => fun
  | [d1, d2, d3] => { results := [.lit (.bool true)], args := [d1, d2, d3] }
  | _ => none }
def fnExactAllSolutionsRow : OpenClaim := { program := "ytdhjcgbaaghnoaa", sum := "d72c83832eb64d327aa185e411edff5684fff2104f981a8d65e126ce1ded433c", func := "loop.example/finiterings/laws.FnExactAllSolutions", spec := "fnExactAllSolutions", inPlace := ["(*sync.WaitGroup).Add", "internal/race.ReleaseMerge", "internal/race.Disable", "internal/race.Enable", "internal/synctest.IsInBubble", "internal/synctest.Associate[sync.WaitGroup]", "sync.fatal", "sync/atomic.OrUint64", "sync/atomic.AddUint64", "internal/race.Read", "sync/atomic.LoadUint64", "sync/atomic.StoreUint64", "internal/synctest.Disassociate[sync.WaitGroup]", "sync.runtime_Semrelease", "(*sync.WaitGroup).Done", "(*sync.WaitGroup).Wait", "internal/race.Acquire", "internal/synctest.IsAssociated[sync.WaitGroup]", "sync/atomic.CompareAndSwapUint64", "internal/race.Write", "sync.runtime_SemacquireWaitGroup"], unfollowed := true, recurses := true, plainKeys := false, leaving := true, apart := false }
def FnExactAllSolutionsSaid : Prop := fnExactAllSolutionsRow.holds Try.pinned (OpenSpec.ofChange fnExactAllSolutionsSpec)

/-- ITS FALSE NEIGHBOUR: 'it returns false'. Refute it at one input. -/
def fnExactAllSolutionsWrong : ChangeSpec := { name := "fnExactAllSolutions", fn := fun _ => fun
  | [d1, d2, d3] => { results := [.lit (.bool false)], args := [d1, d2, d3] }
  | _ => none }
def FnExactAllSolutionsWrongFalsely : Prop := fnExactAllSolutionsRow.holds Try.pinned (OpenSpec.ofChange fnExactAllSolutionsWrong)

/-- 'laws.FnExactSolveTogether': WHATEVER THE INPUT: true; the input reads as it did. -/
def fnExactSolveTogetherSpec : ChangeSpec := { name := "fnExactSolveTogether", fn := fun _ => fun
  | [d1, d2, d3] => { results := [.lit (.bool true)], args := [d1, d2, d3] }
  | _ => none }
def fnExactSolveTogetherRow : OpenClaim := { program := "ytdhjcgbaaghnoaa", sum := "d72c83832eb64d327aa185e411edff5684fff2104f981a8d65e126ce1ded433c", func := "loop.example/finiterings/laws.FnExactSolveTogether", spec := "fnExactSolveTogether", inPlace := ["(*sync.WaitGroup).Add", "internal/race.ReleaseMerge", "internal/race.Disable", "internal/race.Enable", "internal/synctest.IsInBubble", "internal/synctest.Associate[sync.WaitGroup]", "sync.fatal", "sync/atomic.OrUint64", "sync/atomic.AddUint64", "internal/race.Read", "sync/atomic.LoadUint64", "sync/atomic.StoreUint64", "internal/synctest.Disassociate[sync.WaitGroup]", "sync.runtime_Semrelease", "(*sync.WaitGroup).Done", "(*sync.WaitGroup).Wait", "internal/race.Acquire", "internal/synctest.IsAssociated[sync.WaitGroup]", "sync/atomic.CompareAndSwapUint64", "internal/race.Write", "sync.runtime_SemacquireWaitGroup"], unfollowed := true, recurses := true, plainKeys := false, leaving := true, apart := false }
def FnExactSolveTogetherSaid : Prop := fnExactSolveTogetherRow.holds Try.pinned (OpenSpec.ofChange fnExactSolveTogetherSpec)

/-- ITS FALSE NEIGHBOUR: 'it returns false'. Refute it at one input. -/
def fnExactSolveTogetherWrong : ChangeSpec := { name := "fnExactSolveTogether", fn := fun _ => fun
  | [d1, d2, d3] => { results := [.lit (.bool false)], args := [d1, d2, d3] }
  | _ => none }
def FnExactSolveTogetherWrongFalsely : Prop := fnExactSolveTogetherRow.holds Try.pinned (OpenSpec.ofChange fnExactSolveTogetherWrong)

/-- 'laws.FnExactBezoutOf': WHATEVER THE INPUT: true; the input reads as it did. -/
def fnExactBezoutOfSpec : ChangeSpec := { name := "fnExactBezoutOf", fn := fun _ => fun
  | [d1, d2, d3] => { results := [.lit (.bool true)], args := [d1, d2, d3] }
  | _ => none }
def fnExactBezoutOfRow : OpenClaim := { program := "ytdhjcgbaaghnoaa", sum := "d72c83832eb64d327aa185e411edff5684fff2104f981a8d65e126ce1ded433c", func := "loop.example/finiterings/laws.FnExactBezoutOf", spec := "fnExactBezoutOf", inPlace := ["(*sync.WaitGroup).Add", "internal/race.ReleaseMerge", "internal/race.Disable", "internal/race.Enable", "internal/synctest.IsInBubble", "internal/synctest.Associate[sync.WaitGroup]", "sync.fatal", "sync/atomic.OrUint64", "sync/atomic.AddUint64", "internal/race.Read", "sync/atomic.LoadUint64", "sync/atomic.StoreUint64", "internal/synctest.Disassociate[sync.WaitGroup]", "sync.runtime_Semrelease", "(*sync.WaitGroup).Done", "(*sync.WaitGroup).Wait", "internal/race.Acquire", "internal/synctest.IsAssociated[sync.WaitGroup]", "sync/atomic.CompareAndSwapUint64", "internal/race.Write", "sync.runtime_SemacquireWaitGroup"], unfollowed := true, recurses := true, plainKeys := false, leaving := true, apart := false }
def FnExactBezoutOfSaid : Prop := fnExactBezoutOfRow.holds Try.pinned (OpenSpec.ofChange fnExactBezoutOfSpec)

/-- ITS FALSE NEIGHBOUR: 'it returns false'. Refute it at one input. -/
def fnExactBezoutOfWrong : ChangeSpec := { name := "fnExactBezoutOf", fn := fun _ => fun
  | [d1, d2, d3] => { results := [.lit (.bool false)], args := [d1, d2, d3] }
  | _ => none }
def FnExactBezoutOfWrongFalsely : Prop := fnExactBezoutOfRow.holds Try.pinned (OpenSpec.ofChange fnExactBezoutOfWrong)

/-- 'laws.FnExactResidueSizes': WHATEVER THE INPUT: true; the input reads as it did. -/
def fnExactResidueSizesSpec : ChangeSpec := { name := "fnExactResidueSizes", fn := fun _ => fun
  | [d] => { results := [.lit (.bool true)], args := [d] }
  | _ => none }
def fnExactResidueSizesRow : OpenClaim := { program := "ytdhjcgbaaghnoaa", sum := "d72c83832eb64d327aa185e411edff5684fff2104f981a8d65e126ce1ded433c", func := "loop.example/finiterings/laws.FnExactResidueSizes", spec := "fnExactResidueSizes", unfollowed := true, recurses := true, plainKeys := false, leaving := true, apart := false }
def FnExactResidueSizesSaid : Prop := fnExactResidueSizesRow.holds Try.pinned (OpenSpec.ofChange fnExactResidueSizesSpec)

/-- ITS FALSE NEIGHBOUR: 'it returns false'. Refute it at one input. -/
def fnExactResidueSizesWrong : ChangeSpec := { name := "fnExactResidueSizes", fn := fun _ => fun
  | [d] => { results := [.lit (.bool false)], args := [d] }
  | _ => none }
def FnExactResidueSizesWrongFalsely : Prop := fnExactResidueSizesRow.holds Try.pinned (OpenSpec.ofChange fnExactResidueSizesWrong)

/-- 'laws.FnProductIdeal': WHATEVER THE INPUT: true; the input reads as it did. -/
def fnProductIdealSpec : ChangeSpec := { name := "fnProductIdeal", fn := fun _ => fun
  | [d] => { results := [.lit (.bool true)], args := [d] }
  | _ => none }
def fnProductIdealRow : OpenClaim := { program := "ytdhjcgbaaghnoaa", sum := "d72c83832eb64d327aa185e411edff5684fff2104f981a8d65e126ce1ded433c", func := "loop.example/finiterings/laws.FnProductIdeal", spec := "fnProductIdeal", unfollowed := true, recurses := true, plainKeys := false, leaving := true, apart := false }
def FnProductIdealSaid : Prop := fnProductIdealRow.holds Try.pinned (OpenSpec.ofChange fnProductIdealSpec)

/-- ITS FALSE NEIGHBOUR: 'it returns false'. Refute it at one input. -/
def fnProductIdealWrong : ChangeSpec := { name := "fnProductIdeal", fn := fun _ => fun
  | [d] => { results := [.lit (.bool false)], args := [d] }
  | _ => none }
def FnProductIdealWrongFalsely : Prop := fnProductIdealRow.holds Try.pinned (OpenSpec.ofChange fnProductIdealWrong)

/-- 'laws.FnColon': WHATEVER THE INPUT: true; the input reads as it did. -/
def fnColonSpec : ChangeSpec := { name := "fnColon", fn := fun _ => fun
  | [d] => { results := [.lit (.bool true)], args := [d] }
  | _ => none }
def fnColonRow : OpenClaim := { program := "ytdhjcgbaaghnoaa", sum := "d72c83832eb64d327aa185e411edff5684fff2104f981a8d65e126ce1ded433c", func := "loop.example/finiterings/laws.FnColon", spec := "fnColon", unfollowed := true, recurses := true, plainKeys := false, leaving := true, apart := false }
def FnColonSaid : Prop := fnColonRow.holds Try.pinned (OpenSpec.ofChange fnColonSpec)

/-- ITS FALSE NEIGHBOUR: 'it returns false'. Refute it at one input. -/
def fnColonWrong : ChangeSpec := { name := "fnColon", fn := fun _ => fun
  | [d] => { results := [.lit (.bool false)], args := [d] }
  | _ => none }
def FnColonWrongFalsely : Prop := fnColonRow.holds Try.pinned (OpenSpec.ofChange fnColonWrong)

/-- 'laws.FnSumMeet': WHATEVER THE INPUT: true; the input reads as it did. -/
def fnSumMeetSpec : ChangeSpec := { name := "fnSumMeet", fn := fun _ => fun
  | [d] => { results := [.lit (.bool true)], args := [d] }
  | _ => none }
def fnSumMeetRow : OpenClaim := { program := "ytdhjcgbaaghnoaa", sum := "d72c83832eb64d327aa185e411edff5684fff2104f981a8d65e126ce1ded433c", func := "loop.example/finiterings/laws.FnSumMeet", spec := "fnSumMeet", unfollowed := true, recurses := true, plainKeys := false, leaving := true, apart := false }
def FnSumMeetSaid : Prop := fnSumMeetRow.holds Try.pinned (OpenSpec.ofChange fnSumMeetSpec)

/-- ITS FALSE NEIGHBOUR: 'it returns false'. Refute it at one input. -/
def fnSumMeetWrong : ChangeSpec := { name := "fnSumMeet", fn := fun _ => fun
  | [d] => { results := [.lit (.bool false)], args := [d] }
  | _ => none }
def FnSumMeetWrongFalsely : Prop := fnSumMeetRow.holds Try.pinned (OpenSpec.ofChange fnSumMeetWrong)

/-- 'laws.FnExactPartsOf': WHATEVER THE INPUT: true; the input reads as it did. -/
def fnExactPartsOfSpec : ChangeSpec := { name := "fnExactPartsOf", fn := fun _ => fun
  | [d1, d2] => { results := [.lit (.bool true)], args := [d1, d2] }
  | _ => none }
def fnExactPartsOfRow : OpenClaim := { program := "ytdhjcgbaaghnoaa", sum := "d72c83832eb64d327aa185e411edff5684fff2104f981a8d65e126ce1ded433c", func := "loop.example/finiterings/laws.FnExactPartsOf", spec := "fnExactPartsOf", inPlace := ["sync/atomic.LoadUint32", "(*internal/sync.Mutex).Lock", "internal/race.Disable", "sync/atomic.CompareAndSwapInt32", "internal/race.Enable", "internal/race.Acquire", "(*internal/sync.Mutex).lockSlow", "internal/sync.runtime_canSpin", "internal/sync.runtime_doSpin", "internal/sync.throw", "internal/sync.runtime_nanotime", "internal/sync.runtime_SemacquireMutex", "sync/atomic.AddInt32", "(*internal/sync.Mutex).Unlock", "internal/race.ReleaseMerge", "(*internal/sync.Mutex).unlockSlow", "internal/sync.fatal", "internal/sync.runtime_Semrelease", "sync/atomic.StoreUint32"], unfollowed := true, recurses := true, plainKeys := false, leaving := true, apart := false, calm := true, outside := [.timePasses] }
def FnExactPartsOfSaid : Prop := fnExactPartsOfRow.holds Try.pinned (OpenSpec.ofChange fnExactPartsOfSpec)

/-- ITS FALSE NEIGHBOUR: 'it returns false'. Refute it at one input. -/
def fnExactPartsOfWrong : ChangeSpec := { name := "fnExactPartsOf", fn := fun _ => fun
  | [d1, d2] => { results := [.lit (.bool false)], args := [d1, d2] }
  | _ => none }
def FnExactPartsOfWrongFalsely : Prop := fnExactPartsOfRow.holds Try.pinned (OpenSpec.ofChange fnExactPartsOfWrong)

/-- 'laws.FnExactCornerRing': WHATEVER THE INPUT: true; the input reads as it did. -/
def fnExactCornerRingSpec : ChangeSpec := { name := "fnExactCornerRing", fn := fun _ => fun
  | [d1, d2] => { results := [.lit (.bool true)], args := [d1, d2] }
  | _ => none }
def fnExactCornerRingRow : OpenClaim := { program := "ytdhjcgbaaghnoaa", sum := "d72c83832eb64d327aa185e411edff5684fff2104f981a8d65e126ce1ded433c", func := "loop.example/finiterings/laws.FnExactCornerRing", spec := "fnExactCornerRing", unfollowed := true, recurses := true, plainKeys := false, leaving := true, apart := false }
def FnExactCornerRingSaid : Prop := fnExactCornerRingRow.holds Try.pinned (OpenSpec.ofChange fnExactCornerRingSpec)

/-- ITS FALSE NEIGHBOUR: 'it returns false'. Refute it at one input. -/
def fnExactCornerRingWrong : ChangeSpec := { name := "fnExactCornerRing", fn := fun _ => fun
  | [d1, d2] => { results := [.lit (.bool false)], args := [d1, d2] }
  | _ => none }
def FnExactCornerRingWrongFalsely : Prop := fnExactCornerRingRow.holds Try.pinned (OpenSpec.ofChange fnExactCornerRingWrong)

/- THE SECOND FORM. 'bulk': how many values and letters a reading holds, each counted each time it is reached (what is shared counts as often as it is met; a slice's spare places count too). A statement '..UptoSaid' is the law's where the arguments, and the package variables that the reading takes, are together of bulk at most 1048576: NARROWER than '..Said'. Prove '..Said' where nothing that the law and all that it calls make is longer than what came in: it says more and counts as full. Else prove '..UptoSaid'. A law counts once. -/
mutual
def uptoBulk {H : Type} : DataW H → Nat
  | .lit (.string bytes) => bytes.length + 1
  | .lit _ => 1
  | .nil => 1
  | .ptr d => uptoBulk d + 1
  | .slice elems spare => uptoBulkAll elems + uptoBulkAll spare + 1
  | .agg parts => uptoBulkAll parts + 1
  | .iface _ d => uptoBulk d + 1
  | .map entries => uptoBulkEntries entries + 1
  | .held _ => 1
def uptoBulkAll {H : Type} : List (DataW H) → Nat
  | [] => 0
  | d :: r => uptoBulk d + uptoBulkAll r
def uptoBulkEntries {H : Type} : List (Lit × DataW H) → Nat
  | [] => 0
  | x :: r => uptoBulkEntry x + uptoBulkEntries r
def uptoBulkEntry {H : Type} : Lit × DataW H → Nat
  | (.string bytes, d) => bytes.length + uptoBulk d + 1
  | (_, d) => uptoBulk d + 1
 end
def uptoSmall : (H : Type) → List (DataW H) → Bool := fun _ ds => decide (uptoBulkAll ds ≤ 1048576)
def OpenSpec.upto (s : _root_.Go.ChangeSpec) : _root_.Go.OpenSpec := { _root_.Go.OpenSpec.ofChange s with cond := some uptoSmall }

/-- 'laws.FnExactAreComaximal', WHERE WHAT IT READS IS OF BULK AT MOST 1048576: true; the input reads as it did. -/
def fnExactAreComaximalUptoRow : OpenClaim := { program := "ytdhjcgbaaghnoaa", sum := "d72c83832eb64d327aa185e411edff5684fff2104f981a8d65e126ce1ded433c", func := "loop.example/finiterings/laws.FnExactAreComaximal", spec := "fnExactAreComaximal", unfollowed := true, recurses := true, plainKeys := false, leaving := true, apart := false, narrowed := true }
def FnExactAreComaximalUptoSaid : Prop := fnExactAreComaximalUptoRow.holds Try.pinned (OpenSpec.upto fnExactAreComaximalSpec)

/-- 'laws.FnExactSolveLinear', WHERE WHAT IT READS IS OF BULK AT MOST 1048576: true; the input reads as it did. -/
def fnExactSolveLinearUptoRow : OpenClaim := { program := "ytdhjcgbaaghnoaa", sum := "d72c83832eb64d327aa185e411edff5684fff2104f981a8d65e126ce1ded433c", func := "loop.example/finiterings/laws.FnExactSolveLinear", spec := "fnExactSolveLinear", unfollowed := true, recurses := true, plainKeys := false, leaving := true, apart := false, narrowed := true }
def FnExactSolveLinearUptoSaid : Prop := fnExactSolveLinearUptoRow.holds Try.pinned (OpenSpec.upto fnExactSolveLinearSpec)

/-- 'laws.FnExactAllSolutions', WHERE WHAT IT READS IS OF BULK AT MOST 1048576: true; the input reads as it did. -/
def fnExactAllSolutionsUptoRow : OpenClaim := { program := "ytdhjcgbaaghnoaa", sum := "d72c83832eb64d327aa185e411edff5684fff2104f981a8d65e126ce1ded433c", func := "loop.example/finiterings/laws.FnExactAllSolutions", spec := "fnExactAllSolutions", inPlace := ["(*sync.WaitGroup).Add", "internal/race.ReleaseMerge", "internal/race.Disable", "internal/race.Enable", "internal/synctest.IsInBubble", "internal/synctest.Associate[sync.WaitGroup]", "sync.fatal", "sync/atomic.OrUint64", "sync/atomic.AddUint64", "internal/race.Read", "sync/atomic.LoadUint64", "sync/atomic.StoreUint64", "internal/synctest.Disassociate[sync.WaitGroup]", "sync.runtime_Semrelease", "(*sync.WaitGroup).Done", "(*sync.WaitGroup).Wait", "internal/race.Acquire", "internal/synctest.IsAssociated[sync.WaitGroup]", "sync/atomic.CompareAndSwapUint64", "internal/race.Write", "sync.runtime_SemacquireWaitGroup"], unfollowed := true, recurses := true, plainKeys := false, leaving := true, apart := false, narrowed := true }
def FnExactAllSolutionsUptoSaid : Prop := fnExactAllSolutionsUptoRow.holds Try.pinned (OpenSpec.upto fnExactAllSolutionsSpec)

/-- 'laws.FnExactSolveTogether', WHERE WHAT IT READS IS OF BULK AT MOST 1048576: true; the input reads as it did. -/
def fnExactSolveTogetherUptoRow : OpenClaim := { program := "ytdhjcgbaaghnoaa", sum := "d72c83832eb64d327aa185e411edff5684fff2104f981a8d65e126ce1ded433c", func := "loop.example/finiterings/laws.FnExactSolveTogether", spec := "fnExactSolveTogether", inPlace := ["(*sync.WaitGroup).Add", "internal/race.ReleaseMerge", "internal/race.Disable", "internal/race.Enable", "internal/synctest.IsInBubble", "internal/synctest.Associate[sync.WaitGroup]", "sync.fatal", "sync/atomic.OrUint64", "sync/atomic.AddUint64", "internal/race.Read", "sync/atomic.LoadUint64", "sync/atomic.StoreUint64", "internal/synctest.Disassociate[sync.WaitGroup]", "sync.runtime_Semrelease", "(*sync.WaitGroup).Done", "(*sync.WaitGroup).Wait", "internal/race.Acquire", "internal/synctest.IsAssociated[sync.WaitGroup]", "sync/atomic.CompareAndSwapUint64", "internal/race.Write", "sync.runtime_SemacquireWaitGroup"], unfollowed := true, recurses := true, plainKeys := false, leaving := true, apart := false, narrowed := true }
def FnExactSolveTogetherUptoSaid : Prop := fnExactSolveTogetherUptoRow.holds Try.pinned (OpenSpec.upto fnExactSolveTogetherSpec)

/-- 'laws.FnExactBezoutOf', WHERE WHAT IT READS IS OF BULK AT MOST 1048576: true; the input reads as it did. -/
def fnExactBezoutOfUptoRow : OpenClaim := { program := "ytdhjcgbaaghnoaa", sum := "d72c83832eb64d327aa185e411edff5684fff2104f981a8d65e126ce1ded433c", func := "loop.example/finiterings/laws.FnExactBezoutOf", spec := "fnExactBezoutOf", inPlace := ["(*sync.WaitGroup).Add", "internal/race.ReleaseMerge", "internal/race.Disable", "internal/race.Enable", "internal/synctest.IsInBubble", "internal/synctest.Associate[sync.WaitGroup]", "sync.fatal", "sync/atomic.OrUint64", "sync/atomic.AddUint64", "internal/race.Read", "sync/atomic.LoadUint64", "sync/atomic.StoreUint64", "internal/synctest.Disassociate[sync.WaitGroup]", "sync.runtime_Semrelease", "(*sync.WaitGroup).Done", "(*sync.WaitGroup).Wait", "internal/race.Acquire", "internal/synctest.IsAssociated[sync.WaitGroup]", "sync/atomic.CompareAndSwapUint64", "internal/race.Write", "sync.runtime_SemacquireWaitGroup"], unfollowed := true, recurses := true, plainKeys := false, leaving := true, apart := false, narrowed := true }
def FnExactBezoutOfUptoSaid : Prop := fnExactBezoutOfUptoRow.holds Try.pinned (OpenSpec.upto fnExactBezoutOfSpec)

/-- 'laws.FnExactResidueSizes', WHERE WHAT IT READS IS OF BULK AT MOST 1048576: true; the input reads as it did. -/
def fnExactResidueSizesUptoRow : OpenClaim := { program := "ytdhjcgbaaghnoaa", sum := "d72c83832eb64d327aa185e411edff5684fff2104f981a8d65e126ce1ded433c", func := "loop.example/finiterings/laws.FnExactResidueSizes", spec := "fnExactResidueSizes", unfollowed := true, recurses := true, plainKeys := false, leaving := true, apart := false, narrowed := true }
def FnExactResidueSizesUptoSaid : Prop := fnExactResidueSizesUptoRow.holds Try.pinned (OpenSpec.upto fnExactResidueSizesSpec)

/-- 'laws.FnProductIdeal', WHERE WHAT IT READS IS OF BULK AT MOST 1048576: true; the input reads as it did. -/
def fnProductIdealUptoRow : OpenClaim := { program := "ytdhjcgbaaghnoaa", sum := "d72c83832eb64d327aa185e411edff5684fff2104f981a8d65e126ce1ded433c", func := "loop.example/finiterings/laws.FnProductIdeal", spec := "fnProductIdeal", unfollowed := true, recurses := true, plainKeys := false, leaving := true, apart := false, narrowed := true }
def FnProductIdealUptoSaid : Prop := fnProductIdealUptoRow.holds Try.pinned (OpenSpec.upto fnProductIdealSpec)

/-- 'laws.FnColon', WHERE WHAT IT READS IS OF BULK AT MOST 1048576: true; the input reads as it did. -/
def fnColonUptoRow : OpenClaim := { program := "ytdhjcgbaaghnoaa", sum := "d72c83832eb64d327aa185e411edff5684fff2104f981a8d65e126ce1ded433c", func := "loop.example/finiterings/laws.FnColon", spec := "fnColon", unfollowed := true, recurses := true, plainKeys := false, leaving := true, apart := false, narrowed := true }
def FnColonUptoSaid : Prop := fnColonUptoRow.holds Try.pinned (OpenSpec.upto fnColonSpec)

/-- 'laws.FnSumMeet', WHERE WHAT IT READS IS OF BULK AT MOST 1048576: true; the input reads as it did. -/
def fnSumMeetUptoRow : OpenClaim := { program := "ytdhjcgbaaghnoaa", sum := "d72c83832eb64d327aa185e411edff5684fff2104f981a8d65e126ce1ded433c", func := "loop.example/finiterings/laws.FnSumMeet", spec := "fnSumMeet", unfollowed := true, recurses := true, plainKeys := false, leaving := true, apart := false, narrowed := true }
def FnSumMeetUptoSaid : Prop := fnSumMeetUptoRow.holds Try.pinned (OpenSpec.upto fnSumMeetSpec)

/-- 'laws.FnExactPartsOf', WHERE WHAT IT READS IS OF BULK AT MOST 1048576: true; the input reads as it did. -/
def fnExactPartsOfUptoRow : OpenClaim := { program := "ytdhjcgbaaghnoaa", sum := "d72c83832eb64d327aa185e411edff5684fff2104f981a8d65e126ce1ded433c", func := "loop.example/finiterings/laws.FnExactPartsOf", spec := "fnExactPartsOf", inPlace := ["sync/atomic.LoadUint32", "(*internal/sync.Mutex).Lock", "internal/race.Disable", "sync/atomic.CompareAndSwapInt32", "internal/race.Enable", "internal/race.Acquire", "(*internal/sync.Mutex).lockSlow", "internal/sync.runtime_canSpin", "internal/sync.runtime_doSpin", "internal/sync.throw", "internal/sync.runtime_nanotime", "internal/sync.runtime_SemacquireMutex", "sync/atomic.AddInt32", "(*internal/sync.Mutex).Unlock", "internal/race.ReleaseMerge", "(*internal/sync.Mutex).unlockSlow", "internal/sync.fatal", "internal/sync.runtime_Semrelease", "sync/atomic.StoreUint32"], unfollowed := true, recurses := true, plainKeys := false, leaving := true, apart := false, calm := true, outside := [.timePasses], narrowed := true }
def FnExactPartsOfUptoSaid : Prop := fnExactPartsOfUptoRow.holds Try.pinned (OpenSpec.upto fnExactPartsOfSpec)

/-- 'laws.FnExactCornerRing', WHERE WHAT IT READS IS OF BULK AT MOST 1048576: true; the input reads as it did. -/
def fnExactCornerRingUptoRow : OpenClaim := { program := "ytdhjcgbaaghnoaa", sum := "d72c83832eb64d327aa185e411edff5684fff2104f981a8d65e126ce1ded433c", func := "loop.example/finiterings/laws.FnExactCornerRing", spec := "fnExactCornerRing", unfollowed := true, recurses := true, plainKeys := false, leaving := true, apart := false, narrowed := true }
def FnExactCornerRingUptoSaid : Prop := fnExactCornerRingUptoRow.holds Try.pinned (OpenSpec.upto fnExactCornerRingSpec)

end Rows
end Go.Proofs.Ytdhjcgbaaghnoaa
