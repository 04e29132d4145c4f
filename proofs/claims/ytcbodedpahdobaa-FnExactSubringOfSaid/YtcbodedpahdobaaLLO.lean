
import Derived.Test.YtcbodedpahdobaaLD0
import Derived.Test.YtcbodedpahdobaaLE0
import Derived.Test.YtcbodedpahdobaaLLN
import Derived.Test.YtcbodedpahdobaaMY
/- FnExactSubringOf: whatever comes in, the law returns true, and all that came in reads as it did. -/
namespace Go.Proofs.Ytcbodedpahdobaa
open Go.ChangeShapes Go.WideShapes Go.ChangeAt Go.RowKit Go.Joins

set_option maxRecDepth 100000 in
set_option maxHeartbeats 4000000 in
theorem fnExactSubringOf_lifted (os : Os) (started : os.Started) (H : Type) (enc : TypeId × Value → H) :
    ReturnsInHanded {} Try.checked os 13 .any (Rows.fnExactSubringOfSpec.pre6 enc Try.prog Try.f13 Rows.fnExactSubringOfRow.domain false) (Rows.fnExactSubringOfSpec.post enc Try.prog Try.f13 false true false false) := by
  refine returnsInHanded_of_change (C := Try.checked) Try.own started (by kernel_rfl) Try.func13
    (ChangeSpec.witness6 (enc := enc) (C := Try.checked) false ⟨#[], #[.agg #[.int .i64 0, .int .i64 0, .slice none 0 0, .slice none 0 0], .slice none 0 0], []⟩ 8 (by kernel_rfl) (by kernel_rfl) (by kernel_rfl) (by kernel_rfl)) ?_
  intro W base args ds gs before hval0 hW _ _
  have hval : ∀ (j : Nat) t v, Try.f13.params[j]? = some t → args[j]? = some v → Value.okWide Try.prog W .any base t v := hval0
  have hW' := hW
  obtain ⟨p, q, hA0, hV, rfl, _, _⟩ := hW
  have hA : DataW.TrodAll enc Try.prog W 0 (fun _ => true) true Try.f13.params.toList args.toList ds p := hA0
  rw [Try.params13] at hA hval
  obtain ⟨v0, v1, d0, d1, p0, p1, rfl, rfl, rfl, h0, h1⟩ := trodAll_two hA
  obtain ⟨rfl, rfl⟩ := trodVars_none hV
  clear hA0 hval0
  simp only [List.append_nil] at hW'
  have hlt0 : ∀ x ∈ p0, x.block < W.heap.size := fun x hx => by simpa using hW'.lt x (by simp [hx])
  have hlt1 : ∀ x ∈ p1, x.block < W.heap.size := fun x hx => by simpa using hW'.lt x (by simp [hx])
  obtain ⟨n, o, A, B, la, ca, lb, cb, X, Y, rfl, hX, hY, hla, hlb, hno, hn9⟩ := ring_of_trod (hval 0 37 v0 rfl rfl) h0 hlt0
  obtain ⟨F1, f1, cf1, rfl⟩ := Go.WideShapes.okWide_slice Try.underlying23 (hval 1 23 v1 rfl rfl)
  obtain ⟨fu1, ft1⟩ := h1
  obtain ⟨F1', f1', cf1', X1, e1, hF1, hf1, _⟩ := ints_of_trod (v := .slice F1 f1 cf1) Try.underlying23 (by simpa [Value.cells] using ft1) hlt1
  cases e1
  have h1 : DataW.Trod _ Try.prog W 0 (fun _ => true) true 23 (.slice F1 f1 cf1) d1 p1 := ⟨fu1, ft1⟩
  refine (fnExactSubringOf_walk n o A B la ca lb cb X Y F1 f1 cf1 X1 (sbrL n o X Y X1) (ideB n o X Y X1) W hX hY hla hlb hF1 hf1 (fun A' B' F1' w' h1 h2 g1 => ssub_any n o A' B' F1' la la lb lb f1 f1 X Y X1 w' h1 h2 g1 hla hlb hf1 (Nat.le_refl _) (Nat.le_refl _)) (fun A' B' F1' w' h1 h2 g1 => sub_any n o A' B' F1' la la lb lb f1 f1 X Y X1 w' h1 h2 g1 hla hlb hf1 (Nat.le_refl _) (Nat.le_refl _))).mono fun e W' ⟨he, hb⟩ => ?_
  subst he
  refine ⟨_, rfl, _, _, _, [], _, [], hW', trodAll_mk1 (shut_bool Try.underlying4 true), trodAll_mk2 (Below.trod Try.laidOut (by kernel_rfl) (of_decide_eq_true (by kernel_rfl)) h0 hb hlt0) (Below.trod Try.laidOut (by kernel_rfl) (of_decide_eq_true (by kernel_rfl)) h1 hb hlt1), rfl, hb.frame _, fun h => by cases h⟩

theorem fnExactSubringOf_named : Try.pinned.checked.prog.funcNamed Rows.fnExactSubringOfRow.func = some 13 := by kernel_rfl
theorem fnExactSubringOf_closed : joinedFacts Try.pinned.checked.prog 13 Try.f13 Rows.fnExactSubringOfSpec Rows.fnExactSubringOfRow = true := by
  have h1 : (Rows.fnExactSubringOfRow.lifted == Try.pinned.checked.prog.liftsFinal) = true := pf_lifts
  have h2 : (Try.pinned.checked.prog.make == some Rows.fnExactSubringOfRow.make) = true := pf_make
  unfold joinedFacts
  rw [pf_laid, pf_maps, pf_heard, pf_enter, h1, h2]
  show _ = true
  kernel_rfl
theorem fnExactSubringOf_instance : Try.f13.isInstance Try.pinned.checked.prog Rows.fnExactSubringOfRow.origin Rows.fnExactSubringOfRow.targs := of_decide_eq_true (by kernel_rfl)
theorem fnExactSubringOf_wrapper : Try.f13.isWrapper Try.pinned.checked.prog Rows.fnExactSubringOfRow.wrapper Rows.fnExactSubringOfRow.mainSum := by
  unfold Func.isWrapper; first | (rw [if_pos (by decide +kernel)]; kernel_rfl) | (rw [if_neg (by decide +kernel)]; exact ⟨rfl, rfl⟩)

theorem fnExactSubringOf_holds : Rows.FnExactSubringOfSaid :=
  OpenClaim.holds_of_wide 13 Try.f13 rfl rfl rfl rfl rfl rfl rfl ⟨rfl, rfl, rfl, rfl, rfl⟩ rfl rfl rfl rfl rfl fnExactSubringOf_named Try.func13 fnExactSubringOf_closed
    fnExactSubringOf_instance fnExactSubringOf_wrapper (fun os started H enc _ => fnExactSubringOf_lifted os started H enc)

end Go.Proofs.Ytcbodedpahdobaa
