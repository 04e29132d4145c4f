/- FnExactSameRing: whatever the ring and the numbers that come in, the law returns true, and each reads as it did. -/
import Derived.Test.YtmfplmpipgnajaaD0
import Derived.Test.YtmfplmpipgnajaaE0
import Derived.Test.YtmfplmpipgnajaaL8
namespace Go.Proofs.Ytmfplmpipgnajaa
open Go.ChangeShapes Go.WideShapes Go.ChangeAt Go.RowKit Go.Joins

set_option maxRecDepth 100000 in
theorem fnExactSameRing_lifted (os : Os) (started : os.Started) (H : Type) (enc : TypeId × Value → H) :
    ReturnsInHanded {} Try.checked os 17 .any (Rows.fnExactSameRingSpec.pre6 enc Try.prog Try.f17 Rows.fnExactSameRingRow.domain false) (Rows.fnExactSameRingSpec.post enc Try.prog Try.f17 false true false false) := by
  refine returnsInHanded_of_change (C := Try.checked) Try.own started (by kernel_rfl) Try.func17
    (ChangeSpec.witness6 (enc := enc) (C := Try.checked) false ⟨#[], #[.agg #[.int .i64 0, .int .i64 0, .slice none 0 0, .slice none 0 0], .agg #[.int .i64 0, .int .i64 0, .slice none 0 0, .slice none 0 0]], []⟩ 8 (by kernel_rfl) (by kernel_rfl) (by kernel_rfl) (by kernel_rfl)) ?_
  intro W base args ds gs before hval0 hW _ _
  have hval : ∀ (j : Nat) t v, Try.f17.params[j]? = some t → args[j]? = some v → Value.okWide Try.prog W .any base t v := hval0
  have hW' := hW
  obtain ⟨p, q, hA0, hV, rfl, _, _⟩ := hW
  have hA : DataW.TrodAll enc Try.prog W 0 (fun _ => true) true Try.f17.params.toList args.toList ds p := hA0
  rw [Try.params17] at hA hval
  obtain ⟨v0, v1, d0, d1, p0, p1, rfl, rfl, rfl, h0, h1⟩ := trodAll_two hA
  obtain ⟨rfl, rfl⟩ := trodVars_none hV
  clear hA0 hval0
  simp only [List.append_nil] at hW'
  have hlt : ∀ x ∈ p0, x.block < W.heap.size := fun x hx => by simpa using hW'.lt x (by simp [hx])
  have hlt' : ∀ x ∈ p1, x.block < W.heap.size := fun x hx => by simpa using hW'.lt x (by simp [hx])
  obtain ⟨n, o, A, B, la, ca, lb, cb, X, Y, rfl, hX, hY, hla, hlb, _⟩ := ring_of_trod (hval 0 42 v0 rfl rfl) h0 hlt
  obtain ⟨n', o', A', B', la', ca', lb', cb', X', Y', rfl, hX', hY', hla', hlb', _⟩ := ring_of_trod (hval 1 42 v1 rfl rfl) h1 hlt'
  refine (fnExactSameRing_walk n o n' o' A B A' B' la ca lb cb la' ca' lb' cb' X Y X' Y' W hX hY hX' hY' hla hlb hla' hlb').mono fun e W' ⟨he, hb⟩ => ?_
  subst he
  refine ⟨_, rfl, _, _, _, [], _, [], hW', trodAll_mk1 (shut_bool Try.underlying4 true), trodAll_mk2 (Below.trod Try.laidOut (by kernel_rfl) (of_decide_eq_true (by kernel_rfl)) h0 hb hlt) (Below.trod Try.laidOut (by kernel_rfl) (of_decide_eq_true (by kernel_rfl)) h1 hb hlt'), rfl, hb.frame _, fun h => by cases h⟩

theorem fnExactSameRing_named : Try.pinned.checked.prog.funcNamed Rows.fnExactSameRingRow.func = some 17 := by kernel_rfl
theorem fnExactSameRing_closed : joinedFacts Try.pinned.checked.prog 17 Try.f17 Rows.fnExactSameRingSpec Rows.fnExactSameRingRow = true := by
  have h1 : (Rows.fnExactSameRingRow.lifted == Try.pinned.checked.prog.liftsFinal) = true := pf_lifts
  have h2 : (Try.pinned.checked.prog.make == some Rows.fnExactSameRingRow.make) = true := pf_make
  unfold joinedFacts
  rw [pf_laid, pf_maps, pf_heard, pf_enter, h1, h2]
  show _ = true
  kernel_rfl
theorem fnExactSameRing_instance : Try.f17.isInstance Try.pinned.checked.prog Rows.fnExactSameRingRow.origin Rows.fnExactSameRingRow.targs := of_decide_eq_true (by kernel_rfl)
theorem fnExactSameRing_wrapper : Try.f17.isWrapper Try.pinned.checked.prog Rows.fnExactSameRingRow.wrapper Rows.fnExactSameRingRow.mainSum := by
  unfold Func.isWrapper; first | (rw [if_pos (by decide +kernel)]; kernel_rfl) | (rw [if_neg (by decide +kernel)]; exact ⟨rfl, rfl⟩)

theorem fnExactSameRing_holds : Rows.FnExactSameRingSaid :=
  OpenClaim.holds_of_wide 17 Try.f17 rfl rfl rfl rfl rfl rfl rfl ⟨rfl, rfl, rfl, rfl, rfl⟩ rfl rfl rfl rfl rfl fnExactSameRing_named Try.func17 fnExactSameRing_closed
    fnExactSameRing_instance fnExactSameRing_wrapper (fun os started H enc _ => fnExactSameRing_lifted os started H enc)

end Go.Proofs.Ytmfplmpipgnajaa
