
import Derived.Test.YtlcpbdbdiahmjaaLLV
import Derived.Test.YtlcpbdbdiahmjaaNL
import Derived.Test.YtlcpbdbdiahmjaaLE0
import Derived.Test.YtlcpbdbdiahmjaaLDJ
import Derived.Test.YtlcpbdbdiahmjaaNQ
/- FnExactDividePoly: whatever comes in, the law returns true, and all that came in reads as it did. -/
namespace Go.Proofs.Ytlcpbdbdiahmjaa
open Go.ChangeShapes Go.WideShapes Go.ChangeAt Go.RowKit Go.Joins

set_option maxRecDepth 100000 in
set_option maxHeartbeats 4000000 in
theorem fnExactDividePoly_lifted (os : Os) (started : os.Started) (H : Type) (enc : TypeId × Value → H) :
    ReturnsInHanded {} Try.checked os 11 .any (Rows.fnExactDividePolySpec.pre6 enc Try.prog Try.f11 Rows.fnExactDividePolyRow.domain false) (Rows.fnExactDividePolySpec.post enc Try.prog Try.f11 false true false false) := by
  refine returnsInHanded_of_change (C := Try.checked) Try.own started (by kernel_rfl) Try.func11
    (ChangeSpec.witness6 (enc := enc) (C := Try.checked) false ⟨#[], #[.agg #[.int .i64 0, .int .i64 0, .slice none 0 0, .slice none 0 0], .slice none 0 0, .slice none 0 0], []⟩ 8 (by kernel_rfl) (by kernel_rfl) (by kernel_rfl) (by kernel_rfl)) ?_
  intro W base args ds gs before hval0 hW _ _
  have hval : ∀ (j : Nat) t v, Try.f11.params[j]? = some t → args[j]? = some v → Value.okWide Try.prog W .any base t v := hval0
  have hW' := hW
  obtain ⟨p, q, hA0, hV, rfl, _, _⟩ := hW
  have hA : DataW.TrodAll enc Try.prog W 0 (fun _ => true) true Try.f11.params.toList args.toList ds p := hA0
  rw [Try.params11] at hA hval
  obtain ⟨v0, v1, v2, d0, d1, d2, p0, p1, p2, rfl, rfl, rfl, h0, h1, h2⟩ := trodAll_three hA
  obtain ⟨rfl, rfl⟩ := trodVars_none hV
  clear hA0 hval0
  simp only [List.append_nil, List.append_assoc] at hW'
  have hlt0 : ∀ x ∈ p0, x.block < W.heap.size := fun x hx => by simpa using hW'.lt x (by simp [hx])
  have hlt1 : ∀ x ∈ p1, x.block < W.heap.size := fun x hx => by simpa using hW'.lt x (by simp [hx])
  have hlt2 : ∀ x ∈ p2, x.block < W.heap.size := fun x hx => by simpa using hW'.lt x (by simp [hx])
  obtain ⟨n, o, A, B, la, ca, lb, cb, X, Y, rfl, hX, hY, hla, hlb, hno, hn9⟩ := ring_of_trod (hval 0 45 v0 rfl rfl) h0 hlt0
  obtain ⟨F1, f1, cf1, rfl⟩ := Go.WideShapes.okWide_slice Try.underlying23 (hval 1 23 v1 rfl rfl)
  obtain ⟨fu1, ft1⟩ := h1
  obtain ⟨F1', f1', cf1', X1, e1, hF1, hf1, _⟩ := ints_of_trod (v := .slice F1 f1 cf1) Try.underlying23 (by simpa [Value.cells] using ft1) hlt1
  cases e1
  have h1 : DataW.Trod _ Try.prog W 0 (fun _ => true) true 23 (.slice F1 f1 cf1) d1 p1 := ⟨fu1, ft1⟩
  obtain ⟨F2, f2, cf2, rfl⟩ := Go.WideShapes.okWide_slice Try.underlying23 (hval 2 23 v2 rfl rfl)
  obtain ⟨fu2, ft2⟩ := h2
  obtain ⟨F2', f2', cf2', X2, e2, hF2, hf2, _⟩ := ints_of_trod (v := .slice F2 f2 cf2) Try.underlying23 (by simpa [Value.cells] using ft2) hlt2
  cases e2
  have h2 : DataW.Trod _ Try.prog W 0 (fun _ => true) true 23 (.slice F2 f2 cf2) d2 p2 := ⟨fu2, ft2⟩
  refine (fnExactDividePoly_walk n o A B la ca lb cb X Y F1 f1 cf1 X1 F2 f2 cf2 X2 (pdvQ n o X Y X1 X2) (pdvR n o X Y X1 X2) (pdvB n o X Y X1 X2) W hX hY hla hlb hF1 hf1 hF2 hf2 (fun A' B' F1' F2' w' h1 h2 g1 g2 => sdiv_any n o A' B' F1' F2' la la lb lb f1 f1 f2 f2 X Y X1 X2 w' h1 h2 g1 g2 hla hlb hf1 hf2 (Nat.le_refl _) (Nat.le_refl _)) (fun A' B' F1' F2' w' h1 h2 g1 g2 => div_any n o A' B' F1' F2' la la lb lb f1 f1 f2 f2 X Y X1 X2 w' h1 h2 g1 g2 hla hlb hf1 hf2 (Nat.le_refl _) (Nat.le_refl _))).mono fun e W' ⟨he, hb⟩ => ?_
  subst he
  refine ⟨_, rfl, _, _, _, [], _, [], hW', trodAll_mk1 (shut_bool Try.underlying4 true), trodAll_mk3 (Below.trod Try.laidOut (by kernel_rfl) (of_decide_eq_true (by kernel_rfl)) h0 hb hlt0) (Below.trod Try.laidOut (by kernel_rfl) (of_decide_eq_true (by kernel_rfl)) h1 hb hlt1) (Below.trod Try.laidOut (by kernel_rfl) (of_decide_eq_true (by kernel_rfl)) h2 hb hlt2), rfl, hb.frame _, fun h => by cases h⟩

theorem fnExactDividePoly_named : Try.pinned.checked.prog.funcNamed Rows.fnExactDividePolyRow.func = some 11 := by kernel_rfl
theorem fnExactDividePoly_closed : joinedFacts Try.pinned.checked.prog 11 Try.f11 Rows.fnExactDividePolySpec Rows.fnExactDividePolyRow = true := by
  have h1 : (Rows.fnExactDividePolyRow.lifted == Try.pinned.checked.prog.liftsFinal) = true := pf_lifts
  have h2 : (Try.pinned.checked.prog.make == some Rows.fnExactDividePolyRow.make) = true := pf_make
  unfold joinedFacts
  rw [pf_laid, pf_maps, pf_heard, pf_enter, h1, h2]
  show _ = true
  kernel_rfl
theorem fnExactDividePoly_instance : Try.f11.isInstance Try.pinned.checked.prog Rows.fnExactDividePolyRow.origin Rows.fnExactDividePolyRow.targs := of_decide_eq_true (by kernel_rfl)
theorem fnExactDividePoly_wrapper : Try.f11.isWrapper Try.pinned.checked.prog Rows.fnExactDividePolyRow.wrapper Rows.fnExactDividePolyRow.mainSum := by
  unfold Func.isWrapper; first | (rw [if_pos (by decide +kernel)]; kernel_rfl) | (rw [if_neg (by decide +kernel)]; exact ⟨rfl, rfl⟩)

theorem fnExactDividePoly_holds : Rows.FnExactDividePolySaid :=
  holds_row 11 Try.f11 rfl rfl rfl rfl rfl rfl rfl ⟨rfl, rfl, rfl, rfl, rfl⟩ rfl rfl rfl rfl fnExactDividePoly_named Try.func11 fnExactDividePoly_closed
    fnExactDividePoly_instance fnExactDividePoly_wrapper (fun os started H enc _ => fnExactDividePoly_lifted os started H enc)

end Go.Proofs.Ytlcpbdbdiahmjaa

