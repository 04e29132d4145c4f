/- FnExactIntegers: whatever comes in, the law returns true, and all that came in reads as it did. -/
import Derived.Test.YtplligjoegjngaaD0
import Derived.Test.YtplligjoegjngaaE0
import Derived.Test.YtplligjoegjngaaK1
import Derived.Test.YtplligjoegjngaaR1
namespace Go.Proofs.Ytplligjoegjngaa
open Go.ChangeShapes Go.WideShapes Go.ChangeAt Go.RowKit Go.Joins

set_option maxRecDepth 100000 in
theorem fnExactIntegers_lifted (os : Os) (started : os.Started) (H : Type) (enc : TypeId × Value → H) :
    ReturnsInHanded {} Try.checked os 3 .any (Rows.fnExactIntegersSpec.pre6 enc Try.prog Try.f3 Rows.fnExactIntegersRow.domain false) (Rows.fnExactIntegersSpec.post enc Try.prog Try.f3 false true false false) := by
  refine returnsInHanded_of_change (C := Try.checked) Try.own started (by kernel_rfl) Try.func3
    (ChangeSpec.witness6 (enc := enc) (C := Try.checked) false ⟨#[], #[.int .i64 0], []⟩ 8 (by kernel_rfl) (by kernel_rfl) (by kernel_rfl) (by kernel_rfl)) ?_
  intro W base args ds gs before hval0 hW _ _
  have hval : ∀ (j : Nat) t v, Try.f3.params[j]? = some t → args[j]? = some v → Value.okWide Try.prog W .any base t v := hval0
  have hW' := hW
  obtain ⟨p, q, hA0, hV, rfl, _, _⟩ := hW
  have hA : DataW.TrodAll enc Try.prog W 0 (fun _ => true) true Try.f3.params.toList args.toList ds p := hA0
  rw [Try.params3] at hA hval
  obtain ⟨v0, d0, rfl, rfl, h0⟩ := trodAll_one hA
  obtain ⟨rfl, rfl⟩ := trodVars_none hV
  obtain ⟨x0, rfl, rfl, rfl, wf0⟩ := open_int Try.underlying3 (hval 0 3 v0 rfl rfl) h0
  clear hA0 hval0
  simp only [List.append_nil] at hW'
  refine (fnExactIntegers_walk x0 (intN x0) (intO x0) (intOk x0) (intX x0) (intY x0) W (specIntegers_any x0) (implIntegers_any x0)).mono fun e W' ⟨he, hb⟩ => ?_
  subst he
  refine ⟨_, rfl, _, _, _, [], _, [], hW', trodAll_mk1 (shut_bool Try.underlying4 true), trodAll_mk1 (shut_int Try.underlying3 wf0), rfl, hb.frame _, fun h => by cases h⟩

theorem fnExactIntegers_named : Try.pinned.checked.prog.funcNamed Rows.fnExactIntegersRow.func = some 3 := by kernel_rfl
theorem fnExactIntegers_closed : joinedFacts Try.pinned.checked.prog 3 Try.f3 Rows.fnExactIntegersSpec Rows.fnExactIntegersRow = true := by
  have h1 : (Rows.fnExactIntegersRow.lifted == Try.pinned.checked.prog.liftsFinal) = true := pf_lifts
  have h2 : (Try.pinned.checked.prog.make == some Rows.fnExactIntegersRow.make) = true := pf_make
  unfold joinedFacts
  rw [pf_laid, pf_maps, pf_heard, pf_enter, h1, h2]
  show _ = true
  kernel_rfl
theorem fnExactIntegers_instance : Try.f3.isInstance Try.pinned.checked.prog Rows.fnExactIntegersRow.origin Rows.fnExactIntegersRow.targs := of_decide_eq_true (by kernel_rfl)
theorem fnExactIntegers_wrapper : Try.f3.isWrapper Try.pinned.checked.prog Rows.fnExactIntegersRow.wrapper Rows.fnExactIntegersRow.mainSum := by
  unfold Func.isWrapper; first | (rw [if_pos (by decide +kernel)]; kernel_rfl) | (rw [if_neg (by decide +kernel)]; exact ⟨rfl, rfl⟩)

theorem fnExactIntegers_holds : Rows.FnExactIntegersSaid :=
  OpenClaim.holds_of_wide 3 Try.f3 rfl rfl rfl rfl rfl rfl rfl ⟨rfl, rfl, rfl, rfl, rfl⟩ rfl rfl rfl rfl rfl fnExactIntegers_named Try.func3 fnExactIntegers_closed
    fnExactIntegers_instance fnExactIntegers_wrapper (fun os started H enc _ => fnExactIntegers_lifted os started H enc)

end Go.Proofs.Ytplligjoegjngaa
