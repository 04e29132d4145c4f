/- FnExactRingValid: whatever the ring that comes in, the law returns true, and the ring reads as it did. -/
import Derived.Test.YtmfplmpipgnajaaD0
import Derived.Test.YtmfplmpipgnajaaE0
namespace Go.Proofs.Ytmfplmpipgnajaa
open Go.ChangeShapes Go.WideShapes Go.ChangeAt Go.RowKit Go.Joins

set_option maxRecDepth 100000 in
theorem fnExactRingValid_lifted (os : Os) (started : os.Started) (H : Type) (enc : TypeId × Value → H) :
    ReturnsInHanded {} Try.checked os 8 .any (Rows.fnExactRingValidSpec.pre6 enc Try.prog Try.f8 Rows.fnExactRingValidRow.domain false) (Rows.fnExactRingValidSpec.post enc Try.prog Try.f8 false true false false) := by
  refine returnsInHanded_of_change (C := Try.checked) Try.own started (by kernel_rfl) Try.func8
    (ChangeSpec.witness6 (enc := enc) (C := Try.checked) false ⟨#[], #[.agg #[.int .i64 0, .int .i64 0, .slice none 0 0, .slice none 0 0]], []⟩ 8 (by kernel_rfl) (by kernel_rfl) (by kernel_rfl) (by kernel_rfl)) ?_
  intro W base args ds gs before hval0 hW _ _
  have hval : ∀ (j : Nat) t v, Try.f8.params[j]? = some t → args[j]? = some v → Value.okWide Try.prog W .any base t v := hval0
  have hW' := hW
  obtain ⟨p, q, hA0, hV, rfl, _, _⟩ := hW
  have hA : DataW.TrodAll enc Try.prog W 0 (fun _ => true) true Try.f8.params.toList args.toList ds p := hA0
  rw [Try.params8] at hA hval
  obtain ⟨v0, d0, rfl, rfl, h0⟩ := trodAll_one hA
  obtain ⟨rfl, rfl⟩ := trodVars_none hV
  clear hA0 hval0
  simp only [List.append_nil] at hW'
  have hlt : ∀ x ∈ p, x.block < W.heap.size := fun x hx => by simpa using hW'.lt x hx
  obtain ⟨n, o, A, B, la, ca, lb, cb, X, Y, rfl, hX, hY, hla, hlb, _⟩ := ring_of_trod (hval 0 42 v0 rfl rfl) h0 hlt
  refine (fnExactRingValid_walk n o A B la ca lb cb X Y W hX hY hla hlb).mono fun e W' ⟨he, hb⟩ => ?_
  subst he
  refine ⟨_, rfl, _, _, _, [], p, [], hW', trodAll_mk1 (shut_bool Try.underlying4 true), trodAll_mk1 (Below.trod Try.laidOut (by kernel_rfl) (of_decide_eq_true (by kernel_rfl)) h0 hb hlt), rfl, hb.frame _, fun h => by cases h⟩

theorem fnExactRingValid_named : Try.pinned.checked.prog.funcNamed Rows.fnExactRingValidRow.func = some 8 := by kernel_rfl
theorem fnExactRingValid_closed : joinedFacts Try.pinned.checked.prog 8 Try.f8 Rows.fnExactRingValidSpec Rows.fnExactRingValidRow = true := by
  have h1 : (Rows.fnExactRingValidRow.lifted == Try.pinned.checked.prog.liftsFinal) = true := pf_lifts
  have h2 : (Try.pinned.checked.prog.make == some Rows.fnExactRingValidRow.make) = true := pf_make
  unfold joinedFacts
  rw [pf_laid, pf_maps, pf_heard, pf_enter, h1, h2]
  show _ = true
  kernel_rfl
theorem fnExactRingValid_instance : Try.f8.isInstance Try.pinned.checked.prog Rows.fnExactRingValidRow.origin Rows.fnExactRingValidRow.targs := of_decide_eq_true (by kernel_rfl)
theorem fnExactRingValid_wrapper : Try.f8.isWrapper Try.pinned.checked.prog Rows.fnExactRingValidRow.wrapper Rows.fnExactRingValidRow.mainSum := by
  unfold Func.isWrapper; first | (rw [if_pos (by decide +kernel)]; kernel_rfl) | (rw [if_neg (by decide +kernel)]; exact ⟨rfl, rfl⟩)

theorem fnExactRingValid_holds : Rows.FnExactRingValidSaid :=
  OpenClaim.holds_of_wide 8 Try.f8 rfl rfl rfl rfl rfl rfl rfl ⟨rfl, rfl, rfl, rfl, rfl⟩ rfl rfl rfl rfl rfl fnExactRingValid_named Try.func8 fnExactRingValid_closed
    fnExactRingValid_instance fnExactRingValid_wrapper (fun os started H enc _ => fnExactRingValid_lifted os started H enc)

end Go.Proofs.Ytmfplmpipgnajaa
