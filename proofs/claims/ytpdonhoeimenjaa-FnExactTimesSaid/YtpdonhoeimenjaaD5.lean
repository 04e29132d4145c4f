
/- FnExactTimes: whatever the ring and the numbers that come in, the law returns true, and each reads as it did. -/
import Derived.Test.YtpdonhoeimenjaaD0
import Derived.Test.YtpdonhoeimenjaaE0
import Derived.Test.YtpdonhoeimenjaaL5
namespace Go.Proofs.Ytpdonhoeimenjaa
open Go.ChangeShapes Go.WideShapes Go.ChangeAt Go.RowKit Go.Joins

set_option maxRecDepth 100000 in
theorem fnExactTimes_lifted (os : Os) (started : os.Started) (H : Type) (enc : TypeId × Value → H) :
    ReturnsInHanded {} Try.checked os 13 .any (Rows.fnExactTimesSpec.pre6 enc Try.prog Try.f13 Rows.fnExactTimesRow.domain false) (Rows.fnExactTimesSpec.post enc Try.prog Try.f13 false true false false) := by
  refine returnsInHanded_of_change (C := Try.checked) Try.own started (by kernel_rfl) Try.func13
    (ChangeSpec.witness6 (enc := enc) (C := Try.checked) false ⟨#[], #[.agg #[.int .i64 0, .int .i64 0, .slice none 0 0, .slice none 0 0], .int .i64 0, .int .i64 0], []⟩ 8 (by kernel_rfl) (by kernel_rfl) (by kernel_rfl) (by kernel_rfl)) ?_
  intro W base args ds gs before hval0 hW _ _
  have hval : ∀ (j : Nat) t v, Try.f13.params[j]? = some t → args[j]? = some v → Value.okWide Try.prog W .any base t v := hval0
  have hW' := hW
  obtain ⟨p, q, hA0, hV, rfl, _, _⟩ := hW
  have hA : DataW.TrodAll enc Try.prog W 0 (fun _ => true) true Try.f13.params.toList args.toList ds p := hA0
  rw [Try.params13] at hA hval
  obtain ⟨v0, v1, v2, d0, d1, d2, p0, p1, p2, rfl, rfl, rfl, h0, h1, h2⟩ := trodAll_three hA
  obtain ⟨rfl, rfl⟩ := trodVars_none hV
  obtain ⟨t, rfl, rfl, rfl, wf1⟩ := open_int Try.underlying3 (hval 1 3 v1 rfl rfl) h1
  obtain ⟨x, rfl, rfl, rfl, wf2⟩ := open_int Try.underlying3 (hval 2 3 v2 rfl rfl) h2
  clear hA0 hval0
  simp only [List.append_nil] at hW'
  have hlt : ∀ x ∈ p0, x.block < W.heap.size := fun x hx => by simpa using hW'.lt x (by simp [hx])
  obtain ⟨n, o, A, B, la, ca, lb, cb, X, Y, rfl, hX, hY, hla, hlb, _⟩ := ring_of_trod (hval 0 55 v0 rfl rfl) h0 hlt
  refine (fnExactTimes_walk n o A B la ca lb cb X Y t x W hX hY hla hlb).mono fun e W' ⟨he, hb⟩ => ?_
  subst he
  refine ⟨_, rfl, _, _, _, [], _, [], hW', trodAll_mk1 (shut_bool Try.underlying4 true), trodAll_mk3 (Below.trod Try.laidOut (by kernel_rfl) (of_decide_eq_true (by kernel_rfl)) h0 hb hlt) (shut_int Try.underlying3 wf1) (shut_int Try.underlying3 wf2), rfl, hb.frame _, fun h => by cases h⟩

theorem fnExactTimes_named : Try.pinned.checked.prog.funcNamed Rows.fnExactTimesRow.func = some 13 := by kernel_rfl
theorem fnExactTimes_closed : joinedFacts Try.pinned.checked.prog 13 Try.f13 Rows.fnExactTimesSpec Rows.fnExactTimesRow = true := by
  have h1 : (Rows.fnExactTimesRow.lifted == Try.pinned.checked.prog.liftsFinal) = true := pf_lifts
  have h2 : (Try.pinned.checked.prog.make == some Rows.fnExactTimesRow.make) = true := pf_make
  unfold joinedFacts
  rw [pf_laid, pf_maps, pf_heard, pf_enter, h1, h2]
  show _ = true
  kernel_rfl
theorem fnExactTimes_instance : Try.f13.isInstance Try.pinned.checked.prog Rows.fnExactTimesRow.origin Rows.fnExactTimesRow.targs := of_decide_eq_true (by kernel_rfl)
theorem fnExactTimes_wrapper : Try.f13.isWrapper Try.pinned.checked.prog Rows.fnExactTimesRow.wrapper Rows.fnExactTimesRow.mainSum := by
  unfold Func.isWrapper; first | (rw [if_pos (by decide +kernel)]; kernel_rfl) | (rw [if_neg (by decide +kernel)]; exact ⟨rfl, rfl⟩)

theorem fnExactTimes_holds : Rows.FnExactTimesSaid :=
  OpenClaim.holds_of_wide 13 Try.f13 rfl rfl rfl rfl rfl rfl rfl ⟨rfl, rfl, rfl, rfl, rfl⟩ rfl rfl rfl rfl rfl fnExactTimes_named Try.func13 fnExactTimes_closed
    fnExactTimes_instance fnExactTimes_wrapper (fun os started H enc _ => fnExactTimes_lifted os started H enc)

end Go.Proofs.Ytpdonhoeimenjaa
