
import Derived.Test.YtihjnjcfiipcoaaLY3
import Derived.Test.YtihjnjcfiipcoaaLE0
import Derived.Test.YtihjnjcfiipcoaaLYQ
/- FnParts: whatever comes in, the law returns true, and all that came in reads as it did. -/
namespace Go.Proofs.Ytihjnjcfiipcoaa
open Go.ChangeShapes Go.WideShapes Go.ChangeAt Go.RowKit Go.Joins

set_option maxRecDepth 100000 in
theorem fnParts_lifted (os : Os) (started : os.Started) (H : Type) (enc : TypeId × Value → H) :
    ReturnsInHanded {} Try.checked os 6 .any (Rows.fnPartsSpec.pre6 enc Try.prog Try.f6 Rows.fnPartsRow.domain false) (Rows.fnPartsSpec.post enc Try.prog Try.f6 false true false false) := by
  refine returnsInHanded_of_change (C := Try.checked) Try.own started (by kernel_rfl) Try.func6
    (ChangeSpec.witness6 (enc := enc) (C := Try.checked) false ⟨#[], #[.slice none 0 0, .slice none 0 0], []⟩ 8 (by kernel_rfl) (by kernel_rfl) (by kernel_rfl) (by kernel_rfl)) ?_
  intro W base args ds gs before hval0 hW _ _
  have hval : ∀ (j : Nat) t v, Try.f6.params[j]? = some t → args[j]? = some v → Value.okWide Try.prog W .any base t v := hval0
  have hW' := hW
  obtain ⟨p, q, hA0, hV, rfl, _, _⟩ := hW
  have hA : DataW.TrodAll enc Try.prog W 0 (fun _ => true) true Try.f6.params.toList args.toList ds p := hA0
  rw [Try.params6] at hA hval
  obtain ⟨v0, v1, d0, d1, p0, p1, rfl, rfl, rfl, h0, h1⟩ := trodAll_two hA
  obtain ⟨rfl, rfl⟩ := trodVars_none hV
  clear hA0 hval0
  simp only [List.append_nil] at hW'
  have hlt0 : ∀ x ∈ p0, x.block < W.heap.size := fun x hx => by simpa using hW'.lt x (by simp [hx])
  obtain ⟨A0, n0, c0, rfl⟩ := Go.WideShapes.okWide_slice Try.underlying22 (hval 0 22 v0 rfl rfl)
  have hk0 := h0
  obtain ⟨fu0, ft0⟩ := hk0
  obtain ⟨A0', n0', c0', e0, hB0, hc0, hd0⟩ := bytes_of_trod (v := .slice A0 n0 c0) (by simpa [Value.cells] using ft0) hlt0
  cases e0
  have hlt1 : ∀ x ∈ p1, x.block < W.heap.size := fun x hx => by simpa using hW'.lt x (by simp [hx])
  obtain ⟨A1, n1, c1, rfl⟩ := Go.WideShapes.okWide_slice Try.underlying22 (hval 1 22 v1 rfl rfl)
  have hk1 := h1
  obtain ⟨fu1, ft1⟩ := hk1
  obtain ⟨A1', n1', c1', e1, hB1, hc1, hd1⟩ := bytes_of_trod (v := .slice A1 n1 c1) (by simpa [Value.cells] using ft1) hlt1
  cases e1
  refine (fnParts_walk A0 n0 c0 A1 n1 c1 W hB0 hc0 hd0 hB1 hc1 hd1).mono fun e W' ⟨he, hb⟩ => ?_
  subst he
  refine ⟨_, rfl, _, _, _, [], _, [], hW', trodAll_mk1 (shut_bool Try.underlying4 true), trodAll_mk2 (Below.trod Try.laidOut (by kernel_rfl) (of_decide_eq_true (by kernel_rfl)) h0 hb hlt0) (Below.trod Try.laidOut (by kernel_rfl) (of_decide_eq_true (by kernel_rfl)) h1 hb hlt1), rfl, hb.frame _, fun h => by cases h⟩

theorem fnParts_named : Try.pinned.checked.prog.funcNamed Rows.fnPartsRow.func = some 6 := by kernel_rfl
theorem fnParts_closed : joinedFacts Try.pinned.checked.prog 6 Try.f6 Rows.fnPartsSpec Rows.fnPartsRow = true := by
  have h1 : (Rows.fnPartsRow.lifted == Try.pinned.checked.prog.liftsFinal) = true := pf_lifts
  have h2 : (Try.pinned.checked.prog.make == some Rows.fnPartsRow.make) = true := pf_make
  unfold joinedFacts
  rw [pf_laid, pf_maps, pf_heard, pf_enter, h1, h2]
  show _ = true
  kernel_rfl
theorem fnParts_instance : Try.f6.isInstance Try.pinned.checked.prog Rows.fnPartsRow.origin Rows.fnPartsRow.targs := of_decide_eq_true (by kernel_rfl)
theorem fnParts_wrapper : Try.f6.isWrapper Try.pinned.checked.prog Rows.fnPartsRow.wrapper Rows.fnPartsRow.mainSum := by
  unfold Func.isWrapper; first | (rw [if_pos (by decide +kernel)]; kernel_rfl) | (rw [if_neg (by decide +kernel)]; exact ⟨rfl, rfl⟩)

theorem fnParts_holds : Rows.FnPartsSaid :=
  OpenClaim.holds_of_wide 6 Try.f6 rfl rfl rfl rfl rfl rfl rfl ⟨rfl, rfl, rfl, rfl, rfl⟩ rfl rfl rfl rfl rfl fnParts_named Try.func6 fnParts_closed
    fnParts_instance fnParts_wrapper (fun os started H enc _ => fnParts_lifted os started H enc)

end Go.Proofs.Ytihjnjcfiipcoaa
