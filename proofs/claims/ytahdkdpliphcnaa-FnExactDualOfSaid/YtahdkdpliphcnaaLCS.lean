
import Derived.Test.YtahdkdpliphcnaaLLV
import Derived.Test.YtahdkdpliphcnaaNL
import Derived.Test.YtahdkdpliphcnaaLE0
import Derived.Test.YtahdkdpliphcnaaLCR
import Derived.Test.YtahdkdpliphcnaaNK
/- FnExactDualOf: whatever comes in, the law returns true, and all that came in reads as it did. -/
namespace Go.Proofs.Ytahdkdpliphcnaa
open Go.ChangeShapes Go.WideShapes Go.ChangeAt Go.RowKit Go.Joins

set_option maxRecDepth 100000 in
set_option maxHeartbeats 4000000 in
theorem fnExactDualOf_lifted (os : Os) (started : os.Started) (H : Type) (enc : TypeId × Value → H) :
    ReturnsInHanded {} Try.checked os 6 .any (Rows.fnExactDualOfSpec.pre6 enc Try.prog Try.f6 Rows.fnExactDualOfRow.domain false) (Rows.fnExactDualOfSpec.post enc Try.prog Try.f6 false true false false) := by
  refine returnsInHanded_of_change (C := Try.checked) Try.own started (by kernel_rfl) Try.func6
    (ChangeSpec.witness6 (enc := enc) (C := Try.checked) false ⟨#[], #[.agg #[.int .i64 0, .int .i64 0, .slice none 0 0, .slice none 0 0], .int .i64 0, .slice none 0 0], []⟩ 8 (by kernel_rfl) (by kernel_rfl) (by kernel_rfl) (by kernel_rfl)) ?_
  intro W base args ds gs before hval0 hW _ _
  have hval : ∀ (j : Nat) t v, Try.f6.params[j]? = some t → args[j]? = some v → Value.okWide Try.prog W .any base t v := hval0
  have hW' := hW
  obtain ⟨p, q, hA0, hV, rfl, _, _⟩ := hW
  have hA : DataW.TrodAll enc Try.prog W 0 (fun _ => true) true Try.f6.params.toList args.toList ds p := hA0
  rw [Try.params6] at hA hval
  obtain ⟨v0, v1, v2, d0, d1, d2, p0, p1, p2, rfl, rfl, rfl, h0, h1, h2⟩ := trodAll_three hA
  obtain ⟨rfl, rfl⟩ := trodVars_none hV
  obtain ⟨x1, rfl, rfl, rfl, wf1⟩ := open_int Try.underlying3 (hval 1 3 v1 rfl rfl) h1
  clear hA0 hval0
  simp only [List.append_nil] at hW'
  have hlt0 : ∀ x ∈ p0, x.block < W.heap.size := fun x hx => by simpa using hW'.lt x (by simp [hx])
  have hlt2 : ∀ x ∈ p2, x.block < W.heap.size := fun x hx => by simpa using hW'.lt x (by simp [hx])
  obtain ⟨n, o, A, B, la, ca, lb, cb, X, Y, rfl, hX, hY, hla, hlb, hno, hn9⟩ := ring_of_trod (hval 0 24 v0 rfl rfl) h0 hlt0
  obtain ⟨F2, f2, cf2, rfl⟩ := Go.WideShapes.okWide_slice Try.underlying35 (hval 2 35 v2 rfl rfl)
  obtain ⟨fu2, ft2⟩ := h2
  obtain ⟨R2, hF2, hf2⟩ := rws_of_trod (v := .slice F2 f2 cf2) Try.underlying35 (by simpa [Value.cells] using ft2) hlt2
  have h2 : DataW.Trod _ Try.prog W 0 (fun _ => true) true 35 (.slice F2 f2 cf2) d2 p2 := ⟨fu2, ft2⟩
  refine (fnExactDualOf_walk n o A B la ca lb cb X Y x1 (.slice F2 f2 cf2) R2 (sysL n o X Y x1 R2 (zrs R2.length)) (spcB n o X Y x1 R2) W hX hY hla hlb hF2 hf2 (fun A' B' F2' w' h1 h2 g2 l2 => sDual_any n o x1 A' B' la la lb lb X Y R2 (.slice F2' R2.length R2.length) w' h1 h2 g2 hla hlb (Nat.le_refl _) (Nat.le_refl _) l2) (fun A' B' F2' w' h1 h2 g2 l2 => dual_any n o x1 A' B' la la lb lb X Y R2 (.slice F2' R2.length R2.length) w' h1 h2 g2 hla hlb (Nat.le_refl _) (Nat.le_refl _) l2)).mono fun e W' ⟨he, hb⟩ => ?_
  subst he
  refine ⟨_, rfl, _, _, _, [], _, [], hW', trodAll_mk1 (shut_bool Try.underlying4 true), trodAll_mk3 (Below.trod Try.laidOut (by kernel_rfl) (of_decide_eq_true (by kernel_rfl)) h0 hb hlt0) (shut_int Try.underlying3 wf1) (Below.trod Try.laidOut (by kernel_rfl) (of_decide_eq_true (by kernel_rfl)) h2 hb hlt2), rfl, hb.frame _, fun h => by cases h⟩

theorem fnExactDualOf_named : Try.pinned.checked.prog.funcNamed Rows.fnExactDualOfRow.func = some 6 := by kernel_rfl
theorem fnExactDualOf_closed : joinedFacts Try.pinned.checked.prog 6 Try.f6 Rows.fnExactDualOfSpec Rows.fnExactDualOfRow = true := by
  have h1 : (Rows.fnExactDualOfRow.lifted == Try.pinned.checked.prog.liftsFinal) = true := pf_lifts
  have h2 : (Try.pinned.checked.prog.make == some Rows.fnExactDualOfRow.make) = true := pf_make
  unfold joinedFacts
  rw [pf_laid, pf_maps, pf_heard, pf_enter, h1, h2]
  show _ = true
  kernel_rfl
theorem fnExactDualOf_instance : Try.f6.isInstance Try.pinned.checked.prog Rows.fnExactDualOfRow.origin Rows.fnExactDualOfRow.targs := of_decide_eq_true (by kernel_rfl)
theorem fnExactDualOf_wrapper : Try.f6.isWrapper Try.pinned.checked.prog Rows.fnExactDualOfRow.wrapper Rows.fnExactDualOfRow.mainSum := by
  unfold Func.isWrapper; first | (rw [if_pos (by decide +kernel)]; kernel_rfl) | (rw [if_neg (by decide +kernel)]; exact ⟨rfl, rfl⟩)

theorem fnExactDualOf_holds : Rows.FnExactDualOfSaid :=
  holds_row 6 Try.f6 rfl rfl rfl rfl rfl rfl rfl ⟨rfl, rfl, rfl, rfl, rfl⟩ rfl rfl rfl rfl fnExactDualOf_named Try.func6 fnExactDualOf_closed
    fnExactDualOf_instance fnExactDualOf_wrapper (fun os started H enc _ => fnExactDualOf_lifted os started H enc)

end Go.Proofs.Ytahdkdpliphcnaa

