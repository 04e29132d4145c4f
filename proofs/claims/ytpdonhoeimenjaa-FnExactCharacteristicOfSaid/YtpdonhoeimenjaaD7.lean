
/- FnExactCharacteristicOf: whatever the ring and the numbers that come in, the law returns true, and each reads as it did. -/
import Derived.Test.YtpdonhoeimenjaaD0
import Derived.Test.YtpdonhoeimenjaaE0
import Derived.Test.YtpdonhoeimenjaaL7
namespace Go.Proofs.Ytpdonhoeimenjaa
open Go.ChangeShapes Go.WideShapes Go.ChangeAt Go.RowKit Go.Joins

set_option maxRecDepth 100000 in
theorem fnExactCharacteristicOf_lifted (os : Os) (started : os.Started) (H : Type) (enc : TypeId × Value → H) :
    ReturnsInHanded {} Try.checked os 14 .any (Rows.fnExactCharacteristicOfSpec.pre6 enc Try.prog Try.f14 Rows.fnExactCharacteristicOfRow.domain false) (Rows.fnExactCharacteristicOfSpec.post enc Try.prog Try.f14 false true false false) := by
  refine returnsInHanded_of_change (C := Try.checked) Try.own started (by kernel_rfl) Try.func14
    (ChangeSpec.witness6 (enc := enc) (C := Try.checked) false ⟨#[], #[.agg #[.int .i64 0, .int .i64 0, .slice none 0 0, .slice none 0 0]], []⟩ 8 (by kernel_rfl) (by kernel_rfl) (by kernel_rfl) (by kernel_rfl)) ?_
  intro W base args ds gs before hval0 hW _ _
  have hval : ∀ (j : Nat) t v, Try.f14.params[j]? = some t → args[j]? = some v → Value.okWide Try.prog W .any base t v := hval0
  have hW' := hW
  obtain ⟨p, q, hA0, hV, rfl, _, _⟩ := hW
  have hA : DataW.TrodAll enc Try.prog W 0 (fun _ => true) true Try.f14.params.toList args.toList ds p := hA0
  rw [Try.params14] at hA hval
  obtain ⟨v0, d0, rfl, rfl, h0⟩ := trodAll_one hA
  obtain ⟨rfl, rfl⟩ := trodVars_none hV
  clear hA0 hval0
  simp only [List.append_nil] at hW'
  have hlt : ∀ x ∈ p, x.block < W.heap.size := fun x hx => by simpa using hW'.lt x hx
  obtain ⟨n, o, A, B, la, ca, lb, cb, X, Y, rfl, hX, hY, hla, hlb, _⟩ := ring_of_trod (hval 0 55 v0 rfl rfl) h0 hlt
  refine (fnExactCharacteristicOf_walk n o A B la ca lb cb X Y W hX hY hla hlb).mono fun e W' ⟨he, hb⟩ => ?_
  subst he
  refine ⟨_, rfl, _, _, _, [], p, [], hW', trodAll_mk1 (shut_bool Try.underlying4 true), trodAll_mk1 (Below.trod Try.laidOut (by kernel_rfl) (of_decide_eq_true (by kernel_rfl)) h0 hb hlt), rfl, hb.frame _, fun h => by cases h⟩

theorem fnExactCharacteristicOf_named : Try.pinned.checked.prog.funcNamed Rows.fnExactCharacteristicOfRow.func = some 14 := by kernel_rfl
theorem fnExactCharacteristicOf_closed : joinedFacts Try.pinned.checked.prog 14 Try.f14 Rows.fnExactCharacteristicOfSpec Rows.fnExactCharacteristicOfRow = true := by
  have h1 : (Rows.fnExactCharacteristicOfRow.lifted == Try.pinned.checked.prog.liftsFinal) = true := pf_lifts
  have h2 : (Try.pinned.checked.prog.make == some Rows.fnExactCharacteristicOfRow.make) = true := pf_make
  unfold joinedFacts
  rw [pf_laid, pf_maps, pf_heard, pf_enter, h1, h2]
  show _ = true
  kernel_rfl
theorem fnExactCharacteristicOf_instance : Try.f14.isInstance Try.pinned.checked.prog Rows.fnExactCharacteristicOfRow.origin Rows.fnExactCharacteristicOfRow.targs := of_decide_eq_true (by kernel_rfl)
theorem fnExactCharacteristicOf_wrapper : Try.f14.isWrapper Try.pinned.checked.prog Rows.fnExactCharacteristicOfRow.wrapper Rows.fnExactCharacteristicOfRow.mainSum := by
  unfold Func.isWrapper; first | (rw [if_pos (by decide +kernel)]; kernel_rfl) | (rw [if_neg (by decide +kernel)]; exact ⟨rfl, rfl⟩)

theorem fnExactCharacteristicOf_holds : Rows.FnExactCharacteristicOfSaid :=
  OpenClaim.holds_of_wide 14 Try.f14 rfl rfl rfl rfl rfl rfl rfl ⟨rfl, rfl, rfl, rfl, rfl⟩ rfl rfl rfl rfl rfl fnExactCharacteristicOf_named Try.func14 fnExactCharacteristicOf_closed
    fnExactCharacteristicOf_instance fnExactCharacteristicOf_wrapper (fun os started H enc _ => fnExactCharacteristicOf_lifted os started H enc)

end Go.Proofs.Ytpdonhoeimenjaa
