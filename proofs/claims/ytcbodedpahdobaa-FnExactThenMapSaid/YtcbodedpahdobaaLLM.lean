
import Derived.Test.YtcbodedpahdobaaLD0
import Derived.Test.YtcbodedpahdobaaLE0
import Derived.Test.YtcbodedpahdobaaLLK
/- FnExactThenMap: whatever comes in, the law returns true, and all that came in reads as it did. -/
namespace Go.Proofs.Ytcbodedpahdobaa
open Go.ChangeShapes Go.WideShapes Go.ChangeAt Go.RowKit Go.Joins

set_option maxRecDepth 100000 in
set_option maxHeartbeats 4000000 in
theorem fnExactThenMap_lifted (os : Os) (started : os.Started) (H : Type) (enc : TypeId × Value → H) :
    ReturnsInHanded {} Try.checked os 11 .any (Rows.fnExactThenMapSpec.pre6 enc Try.prog Try.f11 Rows.fnExactThenMapRow.domain false) (Rows.fnExactThenMapSpec.post enc Try.prog Try.f11 false true false false) := by
  refine returnsInHanded_of_change (C := Try.checked) Try.own started (by kernel_rfl) Try.func11
    (ChangeSpec.witness6 (enc := enc) (C := Try.checked) false ⟨#[], #[.slice none 0 0, .slice none 0 0], []⟩ 8 (by kernel_rfl) (by kernel_rfl) (by kernel_rfl) (by kernel_rfl)) ?_
  intro W base args ds gs before hval0 hW _ _
  have hval : ∀ (j : Nat) t v, Try.f11.params[j]? = some t → args[j]? = some v → Value.okWide Try.prog W .any base t v := hval0
  have hW' := hW
  obtain ⟨p, q, hA0, hV, rfl, _, _⟩ := hW
  have hA : DataW.TrodAll enc Try.prog W 0 (fun _ => true) true Try.f11.params.toList args.toList ds p := hA0
  rw [Try.params11] at hA hval
  obtain ⟨v0, v1, d0, d1, p0, p1, rfl, rfl, rfl, h0, h1⟩ := trodAll_two hA
  obtain ⟨rfl, rfl⟩ := trodVars_none hV
  clear hA0 hval0
  simp only [List.append_nil] at hW'
  have hlt0 : ∀ x ∈ p0, x.block < W.heap.size := fun x hx => by simpa using hW'.lt x (by simp [hx])
  have hlt1 : ∀ x ∈ p1, x.block < W.heap.size := fun x hx => by simpa using hW'.lt x (by simp [hx])
  obtain ⟨F0, f0, cf0, rfl⟩ := Go.WideShapes.okWide_slice Try.underlying23 (hval 0 23 v0 rfl rfl)
  obtain ⟨fu0, ft0⟩ := h0
  obtain ⟨F0', f0', cf0', X0, e0, hF0, hf0, _⟩ := ints_of_trod (v := .slice F0 f0 cf0) Try.underlying23 (by simpa [Value.cells] using ft0) hlt0
  cases e0
  have h0 : DataW.Trod _ Try.prog W 0 (fun _ => true) true 23 (.slice F0 f0 cf0) d0 p0 := ⟨fu0, ft0⟩
  obtain ⟨F1, f1, cf1, rfl⟩ := Go.WideShapes.okWide_slice Try.underlying23 (hval 1 23 v1 rfl rfl)
  obtain ⟨fu1, ft1⟩ := h1
  obtain ⟨F1', f1', cf1', X1, e1, hF1, hf1, _⟩ := ints_of_trod (v := .slice F1 f1 cf1) Try.underlying23 (by simpa [Value.cells] using ft1) hlt1
  cases e1
  have h1 : DataW.Trod _ Try.prog W 0 (fun _ => true) true 23 (.slice F1 f1 cf1) d1 p1 := ⟨fu1, ft1⟩
  refine (fnExactThenMap_walk F0 f0 cf0 X0 F1 f1 cf1 X1 (thnL X0 X1) (thnB X0 X1) W hF0 hf0 hF1 hf1 (fun F0' F1' w' g0 g1 z0 z1 => sthen_any _ _ f0 f1 f0 f1 X0 X1 w' g0 g1 z0 z1) (fun F0' F1' w' g0 g1 z0 z1 => then_any _ _ f0 f1 f0 f1 X0 X1 w' g0 g1 z0 z1)).mono fun e W' ⟨he, hb⟩ => ?_
  subst he
  refine ⟨_, rfl, _, _, _, [], _, [], hW', trodAll_mk1 (shut_bool Try.underlying4 true), trodAll_mk2 (Below.trod Try.laidOut (by kernel_rfl) (of_decide_eq_true (by kernel_rfl)) h0 hb hlt0) (Below.trod Try.laidOut (by kernel_rfl) (of_decide_eq_true (by kernel_rfl)) h1 hb hlt1), rfl, hb.frame _, fun h => by cases h⟩

theorem fnExactThenMap_named : Try.pinned.checked.prog.funcNamed Rows.fnExactThenMapRow.func = some 11 := by kernel_rfl
theorem fnExactThenMap_closed : joinedFacts Try.pinned.checked.prog 11 Try.f11 Rows.fnExactThenMapSpec Rows.fnExactThenMapRow = true := by
  have h1 : (Rows.fnExactThenMapRow.lifted == Try.pinned.checked.prog.liftsFinal) = true := pf_lifts
  have h2 : (Try.pinned.checked.prog.make == some Rows.fnExactThenMapRow.make) = true := pf_make
  unfold joinedFacts
  rw [pf_laid, pf_maps, pf_heard, pf_enter, h1, h2]
  show _ = true
  kernel_rfl
theorem fnExactThenMap_instance : Try.f11.isInstance Try.pinned.checked.prog Rows.fnExactThenMapRow.origin Rows.fnExactThenMapRow.targs := of_decide_eq_true (by kernel_rfl)
theorem fnExactThenMap_wrapper : Try.f11.isWrapper Try.pinned.checked.prog Rows.fnExactThenMapRow.wrapper Rows.fnExactThenMapRow.mainSum := by
  unfold Func.isWrapper; first | (rw [if_pos (by decide +kernel)]; kernel_rfl) | (rw [if_neg (by decide +kernel)]; exact ⟨rfl, rfl⟩)

theorem fnExactThenMap_holds : Rows.FnExactThenMapSaid :=
  OpenClaim.holds_of_wide 11 Try.f11 rfl rfl rfl rfl rfl rfl rfl ⟨rfl, rfl, rfl, rfl, rfl⟩ rfl rfl rfl rfl rfl fnExactThenMap_named Try.func11 fnExactThenMap_closed
    fnExactThenMap_instance fnExactThenMap_wrapper (fun os started H enc _ => fnExactThenMap_lifted os started H enc)

end Go.Proofs.Ytcbodedpahdobaa
