
import Derived.Test.YtkjanhcajopfhaaLLV
import Derived.Test.YtkjanhcajopfhaaLY3
import Derived.Test.YtkjanhcajopfhaaLE0
import Derived.Test.YtkjanhcajopfhaaLZJ
/- FnDerive: whatever comes in, the law returns true, and all that came in reads as it did. -/
namespace Go.Proofs.Ytkjanhcajopfhaa
open Go.ChangeShapes Go.WideShapes Go.ChangeAt Go.RowKit Go.Joins

set_option maxRecDepth 100000 in
set_option maxHeartbeats 4000000 in
theorem fnDerive_lifted (os : Os) (started : os.Started) (H : Type) (enc : TypeId × Value → H) :
    ReturnsInHanded {} Try.checked os 12 .any (Rows.fnDeriveSpec.pre6 enc Try.prog Try.f12 Rows.fnDeriveRow.domain false) (Rows.fnDeriveSpec.post enc Try.prog Try.f12 false true false false) := by
  refine returnsInHanded_of_change (C := Try.checked) Try.own started (by kernel_rfl) Try.func12
    (ChangeSpec.witness6 (enc := enc) (C := Try.checked) false ⟨#[], #[.slice none 0 0, .slice none 0 0], []⟩ 8 (by kernel_rfl) (by kernel_rfl) (by kernel_rfl) (by kernel_rfl)) ?_
  intro W base args ds gs before hval0 hW _ _
  have hval : ∀ (j : Nat) t v, Try.f12.params[j]? = some t → args[j]? = some v → Value.okWide Try.prog W .any base t v := hval0
  have hW' := hW
  obtain ⟨p, q, hA0, hV, rfl, _, _⟩ := hW
  have hA : DataW.TrodAll enc Try.prog W 0 (fun _ => true) true Try.f12.params.toList args.toList ds p := hA0
  rw [Try.params12] at hA hval
  obtain ⟨v0, v1, d0, d1, p0, p1, rfl, rfl, rfl, h0, h1⟩ := trodAll_two hA
  obtain ⟨rfl, rfl⟩ := trodVars_none hV
  clear hA0 hval0
  simp only [List.append_nil] at hW'
  have hlt0 : ∀ x ∈ p0, x.block < W.heap.size := fun x hx => by simpa using hW'.lt x (by simp [hx])
  obtain ⟨A0, n0, c0, rfl⟩ := Go.WideShapes.okWide_slice Try.underlying43 (hval 0 43 v0 rfl rfl)
  have hk0 := h0
  obtain ⟨fu0, ft0⟩ := hk0
  obtain ⟨A0', n0', c0', e0, hB0, hc0, hd0⟩ := bytes_of_trod (v := .slice A0 n0 c0) (by simpa [Value.cells] using ft0) hlt0
  cases e0
  have hlt1 : ∀ x ∈ p1, x.block < W.heap.size := fun x hx => by simpa using hW'.lt x (by simp [hx])
  obtain ⟨A1, n1, c1, rfl⟩ := Go.WideShapes.okWide_slice Try.underlying43 (hval 1 43 v1 rfl rfl)
  have hk1 := h1
  obtain ⟨fu1, ft1⟩ := hk1
  obtain ⟨A1', n1', c1', e1, hB1, hc1, hd1⟩ := bytes_of_trod (v := .slice A1 n1 c1) (by simpa [Value.cells] using ft1) hlt1
  cases e1
  refine (fnDerive_walk A0 n0 c0 A1 n1 c1 W hB0 hc0 hd0 hB1 hc1 hd1).mono fun e W' ⟨he, hb⟩ => ?_
  subst he
  refine ⟨_, rfl, _, _, _, [], _, [], hW', trodAll_mk1 (shut_bool Try.underlying4 true), trodAll_mk2 (Below.trod Try.laidOut (by kernel_rfl) (of_decide_eq_true (by kernel_rfl)) h0 hb hlt0) (Below.trod Try.laidOut (by kernel_rfl) (of_decide_eq_true (by kernel_rfl)) h1 hb hlt1), rfl, hb.frame _, fun h => by cases h⟩

theorem fnDerive_named : Try.pinned.checked.prog.funcNamed Rows.fnDeriveRow.func = some 12 := by kernel_rfl
theorem fnDerive_closed : joinedFacts Try.pinned.checked.prog 12 Try.f12 Rows.fnDeriveSpec Rows.fnDeriveRow = true := by
  have h1 : (Rows.fnDeriveRow.lifted == Try.pinned.checked.prog.liftsFinal) = true := pf_lifts
  have h2 : (Try.pinned.checked.prog.make == some Rows.fnDeriveRow.make) = true := pf_make
  unfold joinedFacts
  rw [pf_laid, pf_maps, pf_heard, pf_enter, h1, h2]
  show _ = true
  kernel_rfl
theorem fnDerive_instance : Try.f12.isInstance Try.pinned.checked.prog Rows.fnDeriveRow.origin Rows.fnDeriveRow.targs := of_decide_eq_true (by kernel_rfl)
theorem fnDerive_wrapper : Try.f12.isWrapper Try.pinned.checked.prog Rows.fnDeriveRow.wrapper Rows.fnDeriveRow.mainSum := by
  unfold Func.isWrapper; first | (rw [if_pos (by decide +kernel)]; kernel_rfl) | (rw [if_neg (by decide +kernel)]; exact ⟨rfl, rfl⟩)

theorem fnDerive_holds : Rows.FnDeriveSaid :=
  holds_row 12 Try.f12 rfl rfl rfl rfl rfl rfl rfl ⟨rfl, rfl, rfl, rfl, rfl⟩ rfl rfl rfl rfl fnDerive_named Try.func12 fnDerive_closed
    fnDerive_instance fnDerive_wrapper (fun os started H enc _ => fnDerive_lifted os started H enc)

end Go.Proofs.Ytkjanhcajopfhaa

