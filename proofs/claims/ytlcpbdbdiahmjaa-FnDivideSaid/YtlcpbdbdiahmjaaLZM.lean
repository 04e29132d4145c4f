
import Derived.Test.YtlcpbdbdiahmjaaLLV
import Derived.Test.YtlcpbdbdiahmjaaLY3
import Derived.Test.YtlcpbdbdiahmjaaLE0
import Derived.Test.YtlcpbdbdiahmjaaLZL
/- FnDivide: whatever comes in, the law returns true, and all that came in reads as it did. -/
namespace Go.Proofs.Ytlcpbdbdiahmjaa
open Go.ChangeShapes Go.WideShapes Go.ChangeAt Go.RowKit Go.Joins

set_option maxRecDepth 100000 in
set_option maxHeartbeats 4000000 in
theorem fnDivide_lifted (os : Os) (started : os.Started) (H : Type) (enc : TypeId × Value → H) :
    ReturnsInHanded {} Try.checked os 3 .any (Rows.fnDivideSpec.pre6 enc Try.prog Try.f3 Rows.fnDivideRow.domain false) (Rows.fnDivideSpec.post enc Try.prog Try.f3 false true false false) := by
  refine returnsInHanded_of_change (C := Try.checked) Try.own started (by kernel_rfl) Try.func3
    (ChangeSpec.witness6 (enc := enc) (C := Try.checked) false ⟨#[], #[.slice none 0 0], []⟩ 8 (by kernel_rfl) (by kernel_rfl) (by kernel_rfl) (by kernel_rfl)) ?_
  intro W base args ds gs before hval0 hW _ _
  have hval : ∀ (j : Nat) t v, Try.f3.params[j]? = some t → args[j]? = some v → Value.okWide Try.prog W .any base t v := hval0
  have hW' := hW
  obtain ⟨p, q, hA0, hV, rfl, _, _⟩ := hW
  have hA : DataW.TrodAll enc Try.prog W 0 (fun _ => true) true Try.f3.params.toList args.toList ds p := hA0
  rw [Try.params3] at hA hval
  obtain ⟨v0, d0, rfl, rfl, h0⟩ := trodAll_one hA
  obtain ⟨rfl, rfl⟩ := trodVars_none hV
  clear hA0 hval0
  simp only [List.append_nil] at hW'
  have hlt0 : ∀ x ∈ p, x.block < W.heap.size := fun x hx => by simpa using hW'.lt x (by simp [hx])
  obtain ⟨A0, n0, c0, rfl⟩ := Go.WideShapes.okWide_slice Try.underlying22 (hval 0 22 v0 rfl rfl)
  have hk0 := h0
  obtain ⟨fu0, ft0⟩ := hk0
  obtain ⟨A0', n0', c0', e0, hB0, hc0, hd0⟩ := bytes_of_trod (v := .slice A0 n0 c0) (by simpa [Value.cells] using ft0) hlt0
  cases e0
  refine (fnDivide_walk A0 n0 c0 W hB0 hc0 hd0).mono fun e W' ⟨he, hb⟩ => ?_
  subst he
  refine ⟨_, rfl, _, _, _, [], _, [], hW', trodAll_mk1 (shut_bool Try.underlying4 true), trodAll_mk1 (Below.trod Try.laidOut (by kernel_rfl) (of_decide_eq_true (by kernel_rfl)) h0 hb hlt0), rfl, hb.frame _, fun h => by cases h⟩

theorem fnDivide_named : Try.pinned.checked.prog.funcNamed Rows.fnDivideRow.func = some 3 := by kernel_rfl
theorem fnDivide_closed : joinedFacts Try.pinned.checked.prog 3 Try.f3 Rows.fnDivideSpec Rows.fnDivideRow = true := by
  have h1 : (Rows.fnDivideRow.lifted == Try.pinned.checked.prog.liftsFinal) = true := pf_lifts
  have h2 : (Try.pinned.checked.prog.make == some Rows.fnDivideRow.make) = true := pf_make
  unfold joinedFacts
  rw [pf_laid, pf_maps, pf_heard, pf_enter, h1, h2]
  show _ = true
  kernel_rfl
theorem fnDivide_instance : Try.f3.isInstance Try.pinned.checked.prog Rows.fnDivideRow.origin Rows.fnDivideRow.targs := of_decide_eq_true (by kernel_rfl)
theorem fnDivide_wrapper : Try.f3.isWrapper Try.pinned.checked.prog Rows.fnDivideRow.wrapper Rows.fnDivideRow.mainSum := by
  unfold Func.isWrapper; first | (rw [if_pos (by decide +kernel)]; kernel_rfl) | (rw [if_neg (by decide +kernel)]; exact ⟨rfl, rfl⟩)

theorem fnDivide_holds : Rows.FnDivideSaid :=
  holds_row 3 Try.f3 rfl rfl rfl rfl rfl rfl rfl ⟨rfl, rfl, rfl, rfl, rfl⟩ rfl rfl rfl rfl fnDivide_named Try.func3 fnDivide_closed
    fnDivide_instance fnDivide_wrapper (fun os started H enc _ => fnDivide_lifted os started H enc)

end Go.Proofs.Ytlcpbdbdiahmjaa

