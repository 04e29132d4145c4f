/- FnExactProductRing: whatever comes in, the law returns true, and all that came in reads as it did. -/
import Derived.Test.YtplligjoegjngaaD0
import Derived.Test.YtplligjoegjngaaE0
import Derived.Test.YtplligjoegjngaaH7
namespace Go.Proofs.Ytplligjoegjngaa
open Go.ChangeShapes Go.WideShapes Go.ChangeAt Go.RowKit Go.Joins

set_option maxRecDepth 100000 in
theorem fnExactProductRing_lifted (os : Os) (started : os.Started) (H : Type) (enc : TypeId × Value → H) :
    ReturnsInHanded {} Try.checked os 4 .any (Rows.fnExactProductRingSpec.pre6 enc Try.prog Try.f4 Rows.fnExactProductRingRow.domain false) (Rows.fnExactProductRingSpec.post enc Try.prog Try.f4 false true false false) := by
  refine returnsInHanded_of_change (C := Try.checked) Try.own started (by kernel_rfl) Try.func4
    (ChangeSpec.witness6 (enc := enc) (C := Try.checked) false ⟨#[], #[.agg #[.int .i64 0, .int .i64 0, .slice none 0 0, .slice none 0 0], .agg #[.int .i64 0, .int .i64 0, .slice none 0 0, .slice none 0 0]], []⟩ 8 (by kernel_rfl) (by kernel_rfl) (by kernel_rfl) (by kernel_rfl)) ?_
  intro W base args ds gs before hval0 hW _ _
  have hval : ∀ (j : Nat) t v, Try.f4.params[j]? = some t → args[j]? = some v → Value.okWide Try.prog W .any base t v := hval0
  have hW' := hW
  obtain ⟨p, q, hA0, hV, rfl, _, _⟩ := hW
  have hA : DataW.TrodAll enc Try.prog W 0 (fun _ => true) true Try.f4.params.toList args.toList ds p := hA0
  rw [Try.params4] at hA hval
  obtain ⟨v0, v1, d0, d1, p0, p1, rfl, rfl, rfl, h0, h1⟩ := trodAll_two hA
  obtain ⟨rfl, rfl⟩ := trodVars_none hV
  clear hA0 hval0
  simp only [List.append_nil] at hW'
  have hlt0 : ∀ x ∈ p0, x.block < W.heap.size := fun x hx => by simpa using hW'.lt x (by simp [hx])
  obtain ⟨n0, o0, A0, B0, la0, ca0, lb0, cb0, X0, Y0, rfl, hX0, hY0, hla0, hlb0, _⟩ := ring_of_trod (hval 0 30 v0 rfl rfl) h0 hlt0
  have hlt1 : ∀ x ∈ p1, x.block < W.heap.size := fun x hx => by simpa using hW'.lt x (by simp [hx])
  obtain ⟨n1, o1, A1, B1, la1, ca1, lb1, cb1, X1, Y1, rfl, hX1, hY1, hla1, hlb1, _⟩ := ring_of_trod (hval 1 30 v1 rfl rfl) h1 hlt1
  refine (fnExactProductRing_walk n0 o0 n1 o1 A0 B0 A1 B1 la0 ca0 lb0 cb0 la1 ca1 lb1 cb1 X0 Y0 X1 Y1 W hX0 hY0 hX1 hY1 hla0 hlb0 hla1 hlb1).mono fun e W' ⟨he, hb⟩ => ?_
  subst he
  refine ⟨_, rfl, _, _, _, [], _, [], hW', trodAll_mk1 (shut_bool Try.underlying4 true), trodAll_mk2 (Below.trod Try.laidOut (by kernel_rfl) (of_decide_eq_true (by kernel_rfl)) h0 hb hlt0) (Below.trod Try.laidOut (by kernel_rfl) (of_decide_eq_true (by kernel_rfl)) h1 hb hlt1), rfl, hb.frame _, fun h => by cases h⟩

theorem fnExactProductRing_named : Try.pinned.checked.prog.funcNamed Rows.fnExactProductRingRow.func = some 4 := by kernel_rfl
theorem fnExactProductRing_closed : joinedFacts Try.pinned.checked.prog 4 Try.f4 Rows.fnExactProductRingSpec Rows.fnExactProductRingRow = true := by
  have h1 : (Rows.fnExactProductRingRow.lifted == Try.pinned.checked.prog.liftsFinal) = true := pf_lifts
  have h2 : (Try.pinned.checked.prog.make == some Rows.fnExactProductRingRow.make) = true := pf_make
  unfold joinedFacts
  rw [pf_laid, pf_maps, pf_heard, pf_enter, h1, h2]
  show _ = true
  kernel_rfl
theorem fnExactProductRing_instance : Try.f4.isInstance Try.pinned.checked.prog Rows.fnExactProductRingRow.origin Rows.fnExactProductRingRow.targs := of_decide_eq_true (by kernel_rfl)
theorem fnExactProductRing_wrapper : Try.f4.isWrapper Try.pinned.checked.prog Rows.fnExactProductRingRow.wrapper Rows.fnExactProductRingRow.mainSum := by
  unfold Func.isWrapper; first | (rw [if_pos (by decide +kernel)]; kernel_rfl) | (rw [if_neg (by decide +kernel)]; exact ⟨rfl, rfl⟩)

theorem fnExactProductRing_holds : Rows.FnExactProductRingSaid :=
  OpenClaim.holds_of_wide 4 Try.f4 rfl rfl rfl rfl rfl rfl rfl ⟨rfl, rfl, rfl, rfl, rfl⟩ rfl rfl rfl rfl rfl fnExactProductRing_named Try.func4 fnExactProductRing_closed
    fnExactProductRing_instance fnExactProductRing_wrapper (fun os started H enc _ => fnExactProductRing_lifted os started H enc)

end Go.Proofs.Ytplligjoegjngaa
