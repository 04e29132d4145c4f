
import Derived.Test.YteoodcgppidomaaLY3
import Derived.Test.YteoodcgppidomaaLE0
import Derived.Test.YteoodcgppidomaaLYK
/- FnUnits: whatever comes in, the law returns true, and all that came in reads as it did. -/
namespace Go.Proofs.Yteoodcgppidomaa
open Go.ChangeShapes Go.WideShapes Go.ChangeAt Go.RowKit Go.Joins

set_option maxRecDepth 100000 in
theorem fnUnits_lifted (os : Os) (started : os.Started) (H : Type) (enc : TypeId × Value → H) :
    ReturnsInHanded {} Try.checked os 14 .any (Rows.fnUnitsSpec.pre6 enc Try.prog Try.f14 Rows.fnUnitsRow.domain false) (Rows.fnUnitsSpec.post enc Try.prog Try.f14 false true false false) := by
  refine returnsInHanded_of_change (C := Try.checked) Try.own started (by kernel_rfl) Try.func14
    (ChangeSpec.witness6 (enc := enc) (C := Try.checked) false ⟨#[], #[.slice none 0 0], []⟩ 8 (by kernel_rfl) (by kernel_rfl) (by kernel_rfl) (by kernel_rfl)) ?_
  intro W base args ds gs before hval0 hW _ _
  have hval : ∀ (j : Nat) t v, Try.f14.params[j]? = some t → args[j]? = some v → Value.okWide Try.prog W .any base t v := hval0
  have hW' := hW
  obtain ⟨p, q, hA0, hV, rfl, _, _⟩ := hW
  have hA : DataW.TrodAll enc Try.prog W 0 (fun _ => true) true Try.f14.params.toList args.toList ds p := hA0
  rw [Try.params14] at hA hval
  obtain ⟨v0, d0, rfl, rfl, h0⟩ := trodAll_one hA
  obtain ⟨rfl, rfl⟩ := trodVars_none hV
  clear hA0 hval0
  simp only [List.append_nil] at hW'
  have hlt0 : ∀ x ∈ p, x.block < W.heap.size := fun x hx => by simpa using hW'.lt x (by simp [hx])
  obtain ⟨A0, n0, c0, rfl⟩ := Go.WideShapes.okWide_slice Try.underlying51 (hval 0 51 v0 rfl rfl)
  have hk0 := h0
  obtain ⟨fu0, ft0⟩ := hk0
  obtain ⟨A0', n0', c0', e0, hB0, hc0, hd0⟩ := bytes_of_trod (v := .slice A0 n0 c0) (by simpa [Value.cells] using ft0) hlt0
  cases e0
  refine (fnUnits_walk A0 n0 c0 W hB0 hc0 hd0).mono fun e W' ⟨he, hb⟩ => ?_
  subst he
  refine ⟨_, rfl, _, _, _, [], _, [], hW', trodAll_mk1 (shut_bool Try.underlying4 true), trodAll_mk1 (Below.trod Try.laidOut (by kernel_rfl) (of_decide_eq_true (by kernel_rfl)) h0 hb hlt0), rfl, hb.frame _, fun h => by cases h⟩

theorem fnUnits_named : Try.pinned.checked.prog.funcNamed Rows.fnUnitsRow.func = some 14 := by kernel_rfl
theorem fnUnits_closed : joinedFacts Try.pinned.checked.prog 14 Try.f14 Rows.fnUnitsSpec Rows.fnUnitsRow = true := by
  have h1 : (Rows.fnUnitsRow.lifted == Try.pinned.checked.prog.liftsFinal) = true := pf_lifts
  have h2 : (Try.pinned.checked.prog.make == some Rows.fnUnitsRow.make) = true := pf_make
  unfold joinedFacts
  rw [pf_laid, pf_maps, pf_heard, pf_enter, h1, h2]
  show _ = true
  kernel_rfl
theorem fnUnits_instance : Try.f14.isInstance Try.pinned.checked.prog Rows.fnUnitsRow.origin Rows.fnUnitsRow.targs := of_decide_eq_true (by kernel_rfl)
theorem fnUnits_wrapper : Try.f14.isWrapper Try.pinned.checked.prog Rows.fnUnitsRow.wrapper Rows.fnUnitsRow.mainSum := by
  unfold Func.isWrapper; first | (rw [if_pos (by decide +kernel)]; kernel_rfl) | (rw [if_neg (by decide +kernel)]; exact ⟨rfl, rfl⟩)

theorem fnUnits_holds : Rows.FnUnitsSaid :=
  OpenClaim.holds_of_wide 14 Try.f14 rfl rfl rfl rfl rfl rfl rfl ⟨rfl, rfl, rfl, rfl, rfl⟩ rfl rfl rfl rfl rfl fnUnits_named Try.func14 fnUnits_closed
    fnUnits_instance fnUnits_wrapper (fun os started H enc _ => fnUnits_lifted os started H enc)

end Go.Proofs.Yteoodcgppidomaa
