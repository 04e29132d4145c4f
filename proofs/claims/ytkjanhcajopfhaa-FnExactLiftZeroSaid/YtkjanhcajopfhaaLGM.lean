
import Derived.Test.YtkjanhcajopfhaaLLV
import Derived.Test.YtkjanhcajopfhaaLD0
import Derived.Test.YtkjanhcajopfhaaLE0
import Derived.Test.YtkjanhcajopfhaaLGL
import Derived.Test.YtkjanhcajopfhaaNH
/- FnExactLiftZero: whatever comes in, the law returns true, and all that came in reads as it did. -/
namespace Go.Proofs.Ytkjanhcajopfhaa
open Go.ChangeShapes Go.WideShapes Go.ChangeAt Go.RowKit Go.Joins

set_option maxRecDepth 100000 in
set_option maxHeartbeats 4000000 in
theorem fnExactLiftZero_lifted (os : Os) (started : os.Started) (H : Type) (enc : TypeId × Value → H) :
    ReturnsInHanded {} Try.checked os 9 .any (Rows.fnExactLiftZeroSpec.pre6 enc Try.prog Try.f9 Rows.fnExactLiftZeroRow.domain false) (Rows.fnExactLiftZeroSpec.post enc Try.prog Try.f9 false true false false) := by
  refine returnsInHanded_of_change (C := Try.checked) Try.own started (by kernel_rfl) Try.func9
    (ChangeSpec.witness6 (enc := enc) (C := Try.checked) false ⟨#[], #[.agg #[.int .i64 0, .int .i64 0, .slice none 0 0, .slice none 0 0], .slice none 0 0, .int .i64 0], []⟩ 8 (by kernel_rfl) (by kernel_rfl) (by kernel_rfl) (by kernel_rfl)) ?_
  intro W base args ds gs before hval0 hW _ _
  have hval : ∀ (j : Nat) t v, Try.f9.params[j]? = some t → args[j]? = some v → Value.okWide Try.prog W .any base t v := hval0
  have hW' := hW
  obtain ⟨p, q, hA0, hV, rfl, _, _⟩ := hW
  have hA : DataW.TrodAll enc Try.prog W 0 (fun _ => true) true Try.f9.params.toList args.toList ds p := hA0
  rw [Try.params9] at hA hval
  obtain ⟨v0, v1, v2, d0, d1, d2, p0, p1, p2, rfl, rfl, rfl, h0, h1, h2⟩ := trodAll_three hA
  obtain ⟨rfl, rfl⟩ := trodVars_none hV
  obtain ⟨x2, rfl, rfl, rfl, wf2⟩ := open_int Try.underlying3 (hval 2 3 v2 rfl rfl) h2
  clear hA0 hval0
  simp only [List.append_nil] at hW'
  have hlt0 : ∀ x ∈ p0, x.block < W.heap.size := fun x hx => by simpa using hW'.lt x (by simp [hx])
  have hlt1 : ∀ x ∈ p1, x.block < W.heap.size := fun x hx => by simpa using hW'.lt x (by simp [hx])
  obtain ⟨n, o, A, B, la, ca, lb, cb, X, Y, rfl, hX, hY, hla, hlb, hno, hn9⟩ := ring_of_trod (hval 0 24 v0 rfl rfl) h0 hlt0
  obtain ⟨F1, f1, cf1, rfl⟩ := Go.WideShapes.okWide_slice Try.underlying22 (hval 1 22 v1 rfl rfl)
  obtain ⟨fu1, ft1⟩ := h1
  obtain ⟨F1', f1', cf1', X1, e1, hF1, hf1, _⟩ := ints_of_trod (v := .slice F1 f1 cf1) Try.underlying22 (by simpa [Value.cells] using ft1) hlt1
  cases e1
  have h1 : DataW.Trod _ Try.prog W 0 (fun _ => true) true 22 (.slice F1 f1 cf1) d1 p1 := ⟨fu1, ft1⟩
  refine (fnExactLiftZero_walk n o A B la ca lb cb X Y F1 f1 cf1 X1 x2 (lifV n o X Y X1 x2) W hX hY hla hlb hF1 hf1 (fun A' B' F1' w' h1 h2 g1 => slif_any n o A' B' F1' la la lb lb f1 f1 X Y X1 x2 w' h1 h2 g1 hla hlb hf1 (Nat.le_refl _) (Nat.le_refl _)) (fun A' B' F1' w' h1 h2 g1 => lif_any n o A' B' F1' la la lb lb f1 f1 X Y X1 x2 w' h1 h2 g1 hla hlb hf1 (Nat.le_refl _) (Nat.le_refl _))).mono fun e W' ⟨he, hb⟩ => ?_
  subst he
  refine ⟨_, rfl, _, _, _, [], _, [], hW', trodAll_mk1 (shut_bool Try.underlying4 true), trodAll_mk3 (Below.trod Try.laidOut (by kernel_rfl) (of_decide_eq_true (by kernel_rfl)) h0 hb hlt0) (Below.trod Try.laidOut (by kernel_rfl) (of_decide_eq_true (by kernel_rfl)) h1 hb hlt1) (shut_int Try.underlying3 wf2), rfl, hb.frame _, fun h => by cases h⟩

theorem fnExactLiftZero_named : Try.pinned.checked.prog.funcNamed Rows.fnExactLiftZeroRow.func = some 9 := by kernel_rfl
theorem fnExactLiftZero_closed : joinedFacts Try.pinned.checked.prog 9 Try.f9 Rows.fnExactLiftZeroSpec Rows.fnExactLiftZeroRow = true := by
  have h1 : (Rows.fnExactLiftZeroRow.lifted == Try.pinned.checked.prog.liftsFinal) = true := pf_lifts
  have h2 : (Try.pinned.checked.prog.make == some Rows.fnExactLiftZeroRow.make) = true := pf_make
  unfold joinedFacts
  rw [pf_laid, pf_maps, pf_heard, pf_enter, h1, h2]
  show _ = true
  kernel_rfl
theorem fnExactLiftZero_instance : Try.f9.isInstance Try.pinned.checked.prog Rows.fnExactLiftZeroRow.origin Rows.fnExactLiftZeroRow.targs := of_decide_eq_true (by kernel_rfl)
theorem fnExactLiftZero_wrapper : Try.f9.isWrapper Try.pinned.checked.prog Rows.fnExactLiftZeroRow.wrapper Rows.fnExactLiftZeroRow.mainSum := by
  unfold Func.isWrapper; first | (rw [if_pos (by decide +kernel)]; kernel_rfl) | (rw [if_neg (by decide +kernel)]; exact ⟨rfl, rfl⟩)

theorem fnExactLiftZero_holds : Rows.FnExactLiftZeroSaid :=
  holds_row 9 Try.f9 rfl rfl rfl rfl rfl rfl rfl ⟨rfl, rfl, rfl, rfl, rfl⟩ rfl rfl rfl rfl fnExactLiftZero_named Try.func9 fnExactLiftZero_closed
    fnExactLiftZero_instance fnExactLiftZero_wrapper (fun os started H enc _ => fnExactLiftZero_lifted os started H enc)

end Go.Proofs.Ytkjanhcajopfhaa

