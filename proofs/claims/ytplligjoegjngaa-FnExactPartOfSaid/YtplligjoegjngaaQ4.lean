/- FnExactPartOf: whatever comes in, the law returns true, and all that came in reads as it did. -/
import Derived.Test.YtplligjoegjngaaD0
import Derived.Test.YtplligjoegjngaaE0
import Derived.Test.YtplligjoegjngaaQ3
import Derived.Carry
namespace Go.Proofs.Ytplligjoegjngaa
open Go.ChangeShapes Go.WideShapes Go.ChangeAt Go.RowKit Go.Joins

set_option maxRecDepth 100000 in
theorem fnExactPartOf_lifted (os : Os) (started : os.Started) (H : Type) (enc : TypeId × Value → H) :
    ReturnsInHanded {} Try.checked os 6 .any (Rows.fnExactPartOfSpec.pre6 enc Try.prog Try.f6 Rows.fnExactPartOfRow.domain false) (Rows.fnExactPartOfSpec.post enc Try.prog Try.f6 false true false false) := by
  refine returnsInHanded_of_change (C := Try.checked) Try.own started (by kernel_rfl) Try.func6
    (ChangeSpec.witness6 (enc := enc) (C := Try.checked) false ⟨#[], #[.agg #[.int .i64 0, .int .i64 0, .slice none 0 0, .slice none 0 0], .agg #[.int .i64 0, .int .i64 0, .slice none 0 0, .slice none 0 0], .int .i64 0, .bool false], []⟩ 8 (by kernel_rfl) (by kernel_rfl) (by kernel_rfl) (by kernel_rfl)) ?_
  intro W base args ds gs before hval0 hW _ _
  have hval : ∀ (j : Nat) t v, Try.f6.params[j]? = some t → args[j]? = some v → Value.okWide Try.prog W .any base t v := hval0
  have hW' := hW
  obtain ⟨p, q, hA0, hV, rfl, _, _⟩ := hW
  have hA : DataW.TrodAll enc Try.prog W 0 (fun _ => true) true Try.f6.params.toList args.toList ds p := hA0
  rw [Try.params6] at hA hval
  obtain ⟨v0, v1, v2, v3, d0, d1, d2, d3, p0, p1, p2, p3, rfl, rfl, rfl, h0, h1, h2, h3⟩ := Go.RowKit.trodAll_four hA
  obtain ⟨rfl, rfl⟩ := trodVars_none hV
  obtain ⟨x2, rfl, rfl, rfl, wf2⟩ := open_int Try.underlying3 (hval 2 3 v2 rfl rfl) h2
  obtain ⟨x3, rfl, rfl, rfl⟩ := open_bool Try.underlying4 (hval 3 4 v3 rfl rfl) h3
  clear hA0 hval0
  simp only [List.append_nil] at hW'
  have hlt0 : ∀ x ∈ p0, x.block < W.heap.size := fun x hx => by simpa using hW'.lt x (by simp [hx])
  obtain ⟨n0, o0, A0, B0, la0, ca0, lb0, cb0, X0, Y0, rfl, hX0, hY0, hla0, hlb0, _⟩ := ring_of_trod (hval 0 30 v0 rfl rfl) h0 hlt0
  have hlt1 : ∀ x ∈ p1, x.block < W.heap.size := fun x hx => by simpa using hW'.lt x (by simp [hx])
  obtain ⟨n1, o1, A1, B1, la1, ca1, lb1, cb1, X1, Y1, rfl, hX1, hY1, hla1, hlb1, _⟩ := ring_of_trod (hval 1 30 v1 rfl rfl) h1 hlt1
  refine (fnExactPartOf_walk n0 o0 n1 o1 A0 B0 A1 B1 la0 ca0 lb0 cb0 la1 ca1 lb1 cb1 X0 Y0 X1 Y1 x2 x3 W hX0 hY0 hX1 hY1 hla0 hlb0 hla1 hlb1).mono fun e W' ⟨he, hb⟩ => ?_
  subst he
  refine ⟨_, rfl, _, _, _, [], _, [], hW', trodAll_mk1 (shut_bool Try.underlying4 true), Go.RowKit.trodAll_mk4 (Below.trod Try.laidOut (by kernel_rfl) (of_decide_eq_true (by kernel_rfl)) h0 hb hlt0) (Below.trod Try.laidOut (by kernel_rfl) (of_decide_eq_true (by kernel_rfl)) h1 hb hlt1) (shut_int Try.underlying3 wf2) (shut_bool Try.underlying4 x3), rfl, hb.frame _, fun h => by cases h⟩

theorem fnExactPartOf_named : Try.pinned.checked.prog.funcNamed Rows.fnExactPartOfRow.func = some 6 := by kernel_rfl
theorem fnExactPartOf_closed : joinedFacts Try.pinned.checked.prog 6 Try.f6 Rows.fnExactPartOfSpec Rows.fnExactPartOfRow = true := by
  have h1 : (Rows.fnExactPartOfRow.lifted == Try.pinned.checked.prog.liftsFinal) = true := pf_lifts
  have h2 : (Try.pinned.checked.prog.make == some Rows.fnExactPartOfRow.make) = true := pf_make
  unfold joinedFacts
  rw [pf_laid, pf_maps, pf_heard, pf_enter, h1, h2]
  show _ = true
  kernel_rfl
theorem fnExactPartOf_instance : Try.f6.isInstance Try.pinned.checked.prog Rows.fnExactPartOfRow.origin Rows.fnExactPartOfRow.targs := of_decide_eq_true (by kernel_rfl)
theorem fnExactPartOf_wrapper : Try.f6.isWrapper Try.pinned.checked.prog Rows.fnExactPartOfRow.wrapper Rows.fnExactPartOfRow.mainSum := by
  unfold Func.isWrapper; first | (rw [if_pos (by decide +kernel)]; kernel_rfl) | (rw [if_neg (by decide +kernel)]; exact ⟨rfl, rfl⟩)

theorem fnExactPartOf_holds : Rows.FnExactPartOfSaid :=
  OpenClaim.holds_of_wide 6 Try.f6 rfl rfl rfl rfl rfl rfl rfl ⟨rfl, rfl, rfl, rfl, rfl⟩ rfl rfl rfl rfl rfl fnExactPartOf_named Try.func6 fnExactPartOf_closed
    fnExactPartOf_instance fnExactPartOf_wrapper (fun os started H enc _ => fnExactPartOf_lifted os started H enc)

end Go.Proofs.Ytplligjoegjngaa
