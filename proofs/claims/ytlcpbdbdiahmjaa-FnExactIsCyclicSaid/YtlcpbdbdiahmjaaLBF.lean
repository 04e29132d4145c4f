
import Derived.Test.YtlcpbdbdiahmjaaLLV
import Derived.Test.YtlcpbdbdiahmjaaNL
import Derived.Test.YtlcpbdbdiahmjaaLE0
import Derived.Test.YtlcpbdbdiahmjaaLBE
import Derived.Test.YtlcpbdbdiahmjaaNM
/- FnExactIsCyclic: whatever comes in, the law returns true, and all that came in reads as it did. -/
namespace Go.Proofs.Ytlcpbdbdiahmjaa
open Go.ChangeShapes Go.WideShapes Go.ChangeAt Go.RowKit Go.Joins

set_option maxRecDepth 100000 in
set_option maxHeartbeats 4000000 in
theorem fnExactIsCyclic_lifted (os : Os) (started : os.Started) (H : Type) (enc : TypeId × Value → H) :
    ReturnsInHanded {} Try.checked os 7 .any (Rows.fnExactIsCyclicSpec.pre6 enc Try.prog Try.f7 Rows.fnExactIsCyclicRow.domain false) (Rows.fnExactIsCyclicSpec.post enc Try.prog Try.f7 false true false false) := by
  refine returnsInHanded_of_change (C := Try.checked) Try.own started (by kernel_rfl) Try.func7
    (ChangeSpec.witness6 (enc := enc) (C := Try.checked) false ⟨#[], #[.slice none 0 0], []⟩ 8 (by kernel_rfl) (by kernel_rfl) (by kernel_rfl) (by kernel_rfl)) ?_
  intro W base args ds gs before hval0 hW _ _
  have hval : ∀ (j : Nat) t v, Try.f7.params[j]? = some t → args[j]? = some v → Value.okWide Try.prog W .any base t v := hval0
  have hW' := hW
  obtain ⟨p, q, hA0, hV, rfl, _, _⟩ := hW
  have hA : DataW.TrodAll enc Try.prog W 0 (fun _ => true) true Try.f7.params.toList args.toList ds p := hA0
  rw [Try.params7] at hA hval
  obtain ⟨v0, d0, rfl, rfl, h0⟩ := trodAll_one hA
  obtain ⟨rfl, rfl⟩ := trodVars_none hV
  clear hA0 hval0
  simp only [List.append_nil] at hW'
  have hlt0 : ∀ x ∈ p, x.block < W.heap.size := fun x hx => by simpa using hW'.lt x (by simp [hx])
  obtain ⟨F0, f0, cf0, rfl⟩ := Go.WideShapes.okWide_slice Try.underlying23 (hval 0 23 v0 rfl rfl)
  obtain ⟨fu0, ft0⟩ := h0
  obtain ⟨F0', f0', cf0', X0, e0, hF0, hf0, _⟩ := ints_of_trod (v := .slice F0 f0 cf0) Try.underlying23 (by simpa [Value.cells] using ft0) hlt0
  cases e0
  have h0 : DataW.Trod _ Try.prog W 0 (fun _ => true) true 23 (.slice F0 f0 cf0) d0 p := ⟨fu0, ft0⟩
  refine (fnExactIsCyclic_walk F0 f0 cf0 X0 (cycV X0) W hF0 hf0 (fun F0' w' g0 => scycB_any _ f0 f0 X0 w' g0 hf0 (Nat.le_refl _)) (fun F0' w' g0 => cyc_any _ f0 f0 X0 w' g0 hf0)).mono fun e W' ⟨he, hb⟩ => ?_
  subst he
  refine ⟨_, rfl, _, _, _, [], p, [], hW', trodAll_mk1 (shut_bool Try.underlying4 true), trodAll_mk1 (Below.trod Try.laidOut (by kernel_rfl) (of_decide_eq_true (by kernel_rfl)) h0 hb hlt0), rfl, hb.frame _, fun h => by cases h⟩

theorem fnExactIsCyclic_named : Try.pinned.checked.prog.funcNamed Rows.fnExactIsCyclicRow.func = some 7 := by kernel_rfl
theorem fnExactIsCyclic_closed : joinedFacts Try.pinned.checked.prog 7 Try.f7 Rows.fnExactIsCyclicSpec Rows.fnExactIsCyclicRow = true := by
  have h1 : (Rows.fnExactIsCyclicRow.lifted == Try.pinned.checked.prog.liftsFinal) = true := pf_lifts
  have h2 : (Try.pinned.checked.prog.make == some Rows.fnExactIsCyclicRow.make) = true := pf_make
  unfold joinedFacts
  rw [pf_laid, pf_maps, pf_heard, pf_enter, h1, h2]
  show _ = true
  kernel_rfl
theorem fnExactIsCyclic_instance : Try.f7.isInstance Try.pinned.checked.prog Rows.fnExactIsCyclicRow.origin Rows.fnExactIsCyclicRow.targs := of_decide_eq_true (by kernel_rfl)
theorem fnExactIsCyclic_wrapper : Try.f7.isWrapper Try.pinned.checked.prog Rows.fnExactIsCyclicRow.wrapper Rows.fnExactIsCyclicRow.mainSum := by
  unfold Func.isWrapper; first | (rw [if_pos (by decide +kernel)]; kernel_rfl) | (rw [if_neg (by decide +kernel)]; exact ⟨rfl, rfl⟩)

theorem fnExactIsCyclic_holds : Rows.FnExactIsCyclicSaid :=
  holds_row 7 Try.f7 rfl rfl rfl rfl rfl rfl rfl ⟨rfl, rfl, rfl, rfl, rfl⟩ rfl rfl rfl rfl fnExactIsCyclic_named Try.func7 fnExactIsCyclic_closed
    fnExactIsCyclic_instance fnExactIsCyclic_wrapper (fun os started H enc _ => fnExactIsCyclic_lifted os started H enc)

end Go.Proofs.Ytlcpbdbdiahmjaa

