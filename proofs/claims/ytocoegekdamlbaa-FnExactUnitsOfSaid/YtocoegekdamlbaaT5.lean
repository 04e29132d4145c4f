
/- FnExactUnitsOf: whatever the ring and the numbers that come in, the law returns true, and each reads as it did. -/
import Derived.Test.YtocoegekdamlbaaD0
import Derived.Test.YtocoegekdamlbaaE0
import Derived.Test.YtocoegekdamlbaaS5
import Derived.Test.YtocoegekdamlbaaI5
namespace Go.Proofs.Ytocoegekdamlbaa
open Go.ChangeShapes Go.WideShapes Go.ChangeAt Go.RowKit Go.Joins

set_option maxRecDepth 100000 in
theorem fnExactUnitsOf_lifted (os : Os) (started : os.Started) (H : Type) (enc : TypeId × Value → H) :
    ReturnsInHanded {} Try.checked os 5 .any (Rows.fnExactUnitsOfSpec.pre6 enc Try.prog Try.f5 Rows.fnExactUnitsOfRow.domain false) (Rows.fnExactUnitsOfSpec.post enc Try.prog Try.f5 false true false false) := by
  refine returnsInHanded_of_change (C := Try.checked) Try.own started (by kernel_rfl) Try.func5
    (ChangeSpec.witness6 (enc := enc) (C := Try.checked) false ⟨#[], #[.agg #[.int .i64 0, .int .i64 0, .slice none 0 0, .slice none 0 0]], []⟩ 8 (by kernel_rfl) (by kernel_rfl) (by kernel_rfl) (by kernel_rfl)) ?_
  intro W base args ds gs before hval0 hW _ _
  have hval : ∀ (j : Nat) t v, Try.f5.params[j]? = some t → args[j]? = some v → Value.okWide Try.prog W .any base t v := hval0
  have hW' := hW
  obtain ⟨p, q, hA0, hV, rfl, _, _⟩ := hW
  have hA : DataW.TrodAll enc Try.prog W 0 (fun _ => true) true Try.f5.params.toList args.toList ds p := hA0
  rw [Try.params5] at hA hval
  obtain ⟨v0, d0, rfl, rfl, h0⟩ := trodAll_one hA
  obtain ⟨rfl, rfl⟩ := trodVars_none hV
  clear hA0 hval0
  simp only [List.append_nil] at hW'
  have hlt : ∀ x ∈ p, x.block < W.heap.size := fun x hx => by simpa using hW'.lt x hx
  obtain ⟨n, o, A, B, la, ca, lb, cb, X, Y, rfl, hX, hY, hla, hlb, _⟩ := ring_of_trod (hval 0 24 v0 rfl rfl) h0 hlt
  refine (fnExactUnitsOf_walk n o A B la ca lb cb X Y (kindsL n o X Y 0) W hX hY hla hlb (fun A' B' w' h1 h2 => skind0_any n o A' B' la la lb lb X Y w' h1 h2 hla hlb (Nat.le_refl _) (Nat.le_refl _)) (fun A' B' w' h1 h2 => kind0_any n o A' B' la la lb lb X Y w' h1 h2 hla hlb (Nat.le_refl _) (Nat.le_refl _))).mono fun e W' ⟨he, hb⟩ => ?_
  subst he
  refine ⟨_, rfl, _, _, _, [], p, [], hW', trodAll_mk1 (shut_bool Try.underlying4 true), trodAll_mk1 (Below.trod Try.laidOut (by kernel_rfl) (of_decide_eq_true (by kernel_rfl)) h0 hb hlt), rfl, hb.frame _, fun h => by cases h⟩

theorem fnExactUnitsOf_named : Try.pinned.checked.prog.funcNamed Rows.fnExactUnitsOfRow.func = some 5 := by kernel_rfl
theorem fnExactUnitsOf_closed : joinedFacts Try.pinned.checked.prog 5 Try.f5 Rows.fnExactUnitsOfSpec Rows.fnExactUnitsOfRow = true := by
  have h1 : (Rows.fnExactUnitsOfRow.lifted == Try.pinned.checked.prog.liftsFinal) = true := pf_lifts
  have h2 : (Try.pinned.checked.prog.make == some Rows.fnExactUnitsOfRow.make) = true := pf_make
  unfold joinedFacts
  rw [pf_laid, pf_maps, pf_heard, pf_enter, h1, h2]
  show _ = true
  kernel_rfl
theorem fnExactUnitsOf_instance : Try.f5.isInstance Try.pinned.checked.prog Rows.fnExactUnitsOfRow.origin Rows.fnExactUnitsOfRow.targs := of_decide_eq_true (by kernel_rfl)
theorem fnExactUnitsOf_wrapper : Try.f5.isWrapper Try.pinned.checked.prog Rows.fnExactUnitsOfRow.wrapper Rows.fnExactUnitsOfRow.mainSum := by
  unfold Func.isWrapper; first | (rw [if_pos (by decide +kernel)]; kernel_rfl) | (rw [if_neg (by decide +kernel)]; exact ⟨rfl, rfl⟩)

theorem fnExactUnitsOf_holds : Rows.FnExactUnitsOfSaid :=
  OpenClaim.holds_of_wide 5 Try.f5 rfl rfl rfl rfl rfl rfl rfl ⟨rfl, rfl, rfl, rfl, rfl⟩ rfl rfl rfl rfl rfl fnExactUnitsOf_named Try.func5 fnExactUnitsOf_closed
    fnExactUnitsOf_instance fnExactUnitsOf_wrapper (fun os started H enc _ => fnExactUnitsOf_lifted os started H enc)

end Go.Proofs.Ytocoegekdamlbaa
