
import Derived.Test.YtahdkdpliphcnaaLLV
import Derived.Test.YtahdkdpliphcnaaNL
import Derived.Test.YtahdkdpliphcnaaLE0
import Derived.Test.YtahdkdpliphcnaaLCE
import Derived.Test.YtahdkdpliphcnaaNI
/- FnExactNumberOf: whatever comes in, the law returns true, and all that came in reads as it did. -/
namespace Go.Proofs.Ytahdkdpliphcnaa
open Go.ChangeShapes Go.WideShapes Go.ChangeAt Go.RowKit Go.Joins

set_option maxRecDepth 100000 in
set_option maxHeartbeats 4000000 in
theorem fnExactNumberOf_lifted (os : Os) (started : os.Started) (H : Type) (enc : TypeId × Value → H) :
    ReturnsInHanded {} Try.checked os 3 .any (Rows.fnExactNumberOfSpec.pre6 enc Try.prog Try.f3 Rows.fnExactNumberOfRow.domain false) (Rows.fnExactNumberOfSpec.post enc Try.prog Try.f3 false true false false) := by
  refine returnsInHanded_of_change (C := Try.checked) Try.own started (by kernel_rfl) Try.func3
    (ChangeSpec.witness6 (enc := enc) (C := Try.checked) false ⟨#[], #[.agg #[.int .i64 0, .int .i64 0, .slice none 0 0, .slice none 0 0], .slice none 0 0], []⟩ 8 (by kernel_rfl) (by kernel_rfl) (by kernel_rfl) (by kernel_rfl)) ?_
  intro W base args ds gs before hval0 hW _ _
  have hval : ∀ (j : Nat) t v, Try.f3.params[j]? = some t → args[j]? = some v → Value.okWide Try.prog W .any base t v := hval0
  have hW' := hW
  obtain ⟨p, q, hA0, hV, rfl, _, _⟩ := hW
  have hA : DataW.TrodAll enc Try.prog W 0 (fun _ => true) true Try.f3.params.toList args.toList ds p := hA0
  rw [Try.params3] at hA hval
  obtain ⟨v0, v1, d0, d1, p0, p1, rfl, rfl, rfl, h0, h1⟩ := trodAll_two hA
  obtain ⟨rfl, rfl⟩ := trodVars_none hV
  clear hA0 hval0
  simp only [List.append_nil] at hW'
  have hlt0 : ∀ x ∈ p0, x.block < W.heap.size := fun x hx => by simpa using hW'.lt x (by simp [hx])
  have hlt1 : ∀ x ∈ p1, x.block < W.heap.size := fun x hx => by simpa using hW'.lt x (by simp [hx])
  obtain ⟨n, o, A, B, la, ca, lb, cb, X, Y, rfl, hX, hY, hla, hlb, hno, hn9⟩ := ring_of_trod (hval 0 24 v0 rfl rfl) h0 hlt0
  obtain ⟨F1, f1, cf1, rfl⟩ := Go.WideShapes.okWide_slice Try.underlying22 (hval 1 22 v1 rfl rfl)
  obtain ⟨fu1, ft1⟩ := h1
  obtain ⟨F1', f1', cf1', X1, e1, hF1, hf1, _⟩ := ints_of_trod (v := .slice F1 f1 cf1) Try.underlying22 (by simpa [Value.cells] using ft1) hlt1
  cases e1
  have h1 : DataW.Trod _ Try.prog W 0 (fun _ => true) true 22 (.slice F1 f1 cf1) d1 p1 := ⟨fu1, ft1⟩
  refine (fnExactNumberOf_walk n o A B la ca lb cb X Y F1 f1 cf1 X1 (nmV n o X Y X1) W hX hY hla hlb hF1 hf1 (fun A' B' F1' w' h1 h2 g1 => snumOf_any n o A' B' F1' la la lb lb f1 f1 X Y X1 w' h1 h2 g1 hla hlb hf1 (Nat.le_refl _) (Nat.le_refl _) (Nat.le_refl _)) (fun A' B' F1' w' h1 h2 g1 => numOf_any n o A' B' F1' la la lb lb f1 f1 X Y X1 w' h1 h2 g1 hla hlb hf1 (Nat.le_refl _) (Nat.le_refl _) (Nat.le_refl _))).mono fun e W' ⟨he, hb⟩ => ?_
  subst he
  refine ⟨_, rfl, _, _, _, [], _, [], hW', trodAll_mk1 (shut_bool Try.underlying4 true), trodAll_mk2 (Below.trod Try.laidOut (by kernel_rfl) (of_decide_eq_true (by kernel_rfl)) h0 hb hlt0) (Below.trod Try.laidOut (by kernel_rfl) (of_decide_eq_true (by kernel_rfl)) h1 hb hlt1), rfl, hb.frame _, fun h => by cases h⟩

theorem fnExactNumberOf_named : Try.pinned.checked.prog.funcNamed Rows.fnExactNumberOfRow.func = some 3 := by kernel_rfl
theorem fnExactNumberOf_closed : joinedFacts Try.pinned.checked.prog 3 Try.f3 Rows.fnExactNumberOfSpec Rows.fnExactNumberOfRow = true := by
  have h1 : (Rows.fnExactNumberOfRow.lifted == Try.pinned.checked.prog.liftsFinal) = true := pf_lifts
  have h2 : (Try.pinned.checked.prog.make == some Rows.fnExactNumberOfRow.make) = true := pf_make
  unfold joinedFacts
  rw [pf_laid, pf_maps, pf_heard, pf_enter, h1, h2]
  show _ = true
  kernel_rfl
theorem fnExactNumberOf_instance : Try.f3.isInstance Try.pinned.checked.prog Rows.fnExactNumberOfRow.origin Rows.fnExactNumberOfRow.targs := of_decide_eq_true (by kernel_rfl)
theorem fnExactNumberOf_wrapper : Try.f3.isWrapper Try.pinned.checked.prog Rows.fnExactNumberOfRow.wrapper Rows.fnExactNumberOfRow.mainSum := by
  unfold Func.isWrapper; first | (rw [if_pos (by decide +kernel)]; kernel_rfl) | (rw [if_neg (by decide +kernel)]; exact ⟨rfl, rfl⟩)

theorem fnExactNumberOf_holds : Rows.FnExactNumberOfSaid :=
  holds_row 3 Try.f3 rfl rfl rfl rfl rfl rfl rfl ⟨rfl, rfl, rfl, rfl, rfl⟩ rfl rfl rfl rfl fnExactNumberOf_named Try.func3 fnExactNumberOf_closed
    fnExactNumberOf_instance fnExactNumberOf_wrapper (fun os started H enc _ => fnExactNumberOf_lifted os started H enc)

end Go.Proofs.Ytahdkdpliphcnaa

