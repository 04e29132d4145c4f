
import Derived.Test.YtahdkdpliphcnaaLLV
import Derived.Test.YtahdkdpliphcnaaNL
import Derived.Test.YtahdkdpliphcnaaLE0
import Derived.Test.YtahdkdpliphcnaaLCP
import Derived.Test.YtahdkdpliphcnaaNK
/- FnExactSolveSystem: whatever comes in, the law returns true, and all that came in reads as it did. -/
namespace Go.Proofs.Ytahdkdpliphcnaa
open Go.ChangeShapes Go.WideShapes Go.ChangeAt Go.RowKit Go.Joins

set_option maxRecDepth 100000 in
set_option maxHeartbeats 4000000 in
theorem fnExactSolveSystem_lifted (os : Os) (started : os.Started) (H : Type) (enc : TypeId × Value → H) :
    ReturnsInHanded {} Try.checked os 5 .any (Rows.fnExactSolveSystemSpec.pre6 enc Try.prog Try.f5 Rows.fnExactSolveSystemRow.domain false) (Rows.fnExactSolveSystemSpec.post enc Try.prog Try.f5 false true false false) := by
  refine returnsInHanded_of_change (C := Try.checked) Try.own started (by kernel_rfl) Try.func5
    (ChangeSpec.witness6 (enc := enc) (C := Try.checked) false ⟨#[], #[.agg #[.int .i64 0, .int .i64 0, .slice none 0 0, .slice none 0 0], .int .i64 0, .slice none 0 0, .slice none 0 0], []⟩ 8 (by kernel_rfl) (by kernel_rfl) (by kernel_rfl) (by kernel_rfl)) ?_
  intro W base args ds gs before hval0 hW _ _
  have hval : ∀ (j : Nat) t v, Try.f5.params[j]? = some t → args[j]? = some v → Value.okWide Try.prog W .any base t v := hval0
  have hW' := hW
  obtain ⟨p, q, hA0, hV, rfl, _, _⟩ := hW
  have hA : DataW.TrodAll enc Try.prog W 0 (fun _ => true) true Try.f5.params.toList args.toList ds p := hA0
  rw [Try.params5] at hA hval
  obtain ⟨v0, v1, v2, v3, d0, d1, d2, d3, p0, p1, p2, p3, rfl, rfl, rfl, h0, h1, h2, h3⟩ := trodAll_four hA
  obtain ⟨rfl, rfl⟩ := trodVars_none hV
  obtain ⟨x1, rfl, rfl, rfl, wf1⟩ := open_int Try.underlying3 (hval 1 3 v1 rfl rfl) h1
  clear hA0 hval0
  simp only [List.append_nil, List.append_assoc] at hW'
  have hlt0 : ∀ x ∈ p0, x.block < W.heap.size := fun x hx => by simpa using hW'.lt x (by simp [hx])
  have hlt2 : ∀ x ∈ p2, x.block < W.heap.size := fun x hx => by simpa using hW'.lt x (by simp [hx])
  have hlt3 : ∀ x ∈ p3, x.block < W.heap.size := fun x hx => by simpa using hW'.lt x (by simp [hx])
  obtain ⟨n, o, A, B, la, ca, lb, cb, X, Y, rfl, hX, hY, hla, hlb, hno, hn9⟩ := ring_of_trod (hval 0 24 v0 rfl rfl) h0 hlt0
  obtain ⟨F2, f2, cf2, rfl⟩ := Go.WideShapes.okWide_slice Try.underlying35 (hval 2 35 v2 rfl rfl)
  obtain ⟨fu2, ft2⟩ := h2
  obtain ⟨R2, hF2, hf2⟩ := rws_of_trod (v := .slice F2 f2 cf2) Try.underlying35 (by simpa [Value.cells] using ft2) hlt2
  have h2 : DataW.Trod _ Try.prog W 0 (fun _ => true) true 35 (.slice F2 f2 cf2) d2 p2 := ⟨fu2, ft2⟩
  obtain ⟨F3, f3, cf3, rfl⟩ := Go.WideShapes.okWide_slice Try.underlying22 (hval 3 22 v3 rfl rfl)
  obtain ⟨fu3, ft3⟩ := h3
  obtain ⟨F3', f3', cf3', X3, e3, hF3, hf3, _⟩ := ints_of_trod (v := .slice F3 f3 cf3) Try.underlying22 (by simpa [Value.cells] using ft3) hlt3
  cases e3
  have h3 : DataW.Trod _ Try.prog W 0 (fun _ => true) true 22 (.slice F3 f3 cf3) d3 p3 := ⟨fu3, ft3⟩
  refine (fnExactSolveSystem_walk n o A B la ca lb cb X Y x1 (.slice F2 f2 cf2) R2 F3 f3 cf3 X3 (sysL n o X Y x1 R2 X3) (sysB n o X Y x1 R2 X3) W hX hY hla hlb hF2 hf2 hF3 hf3 (fun A' B' F2' F3' w' h1 h2 g2 l2 g3 => sSys_any n o x1 A' B' F3' la la lb lb f3 f3 X Y R2 X3 (.slice F2' R2.length R2.length) w' h1 h2 g2 g3 hla hlb (Nat.le_refl _) (Nat.le_refl _) hf2 hf3) (fun A' B' F2' F3' w' h1 h2 g2 l2 g3 => sys_any n o x1 A' B' F3' la la lb lb f3 f3 X Y R2 X3 (.slice F2' R2.length R2.length) w' h1 h2 g2 g3 hla hlb (Nat.le_refl _) (Nat.le_refl _) hf2 hf3)).mono fun e W' ⟨he, hb⟩ => ?_
  subst he
  refine ⟨_, rfl, _, _, _, [], _, [], hW', trodAll_mk1 (shut_bool Try.underlying4 true), trodAll_mk4 (Below.trod Try.laidOut (by kernel_rfl) (of_decide_eq_true (by kernel_rfl)) h0 hb hlt0) (shut_int Try.underlying3 wf1) (Below.trod Try.laidOut (by kernel_rfl) (of_decide_eq_true (by kernel_rfl)) h2 hb hlt2) (Below.trod Try.laidOut (by kernel_rfl) (of_decide_eq_true (by kernel_rfl)) h3 hb hlt3), rfl, hb.frame _, fun h => by cases h⟩

theorem fnExactSolveSystem_named : Try.pinned.checked.prog.funcNamed Rows.fnExactSolveSystemRow.func = some 5 := by kernel_rfl
theorem fnExactSolveSystem_closed : joinedFacts Try.pinned.checked.prog 5 Try.f5 Rows.fnExactSolveSystemSpec Rows.fnExactSolveSystemRow = true := by
  have h1 : (Rows.fnExactSolveSystemRow.lifted == Try.pinned.checked.prog.liftsFinal) = true := pf_lifts
  have h2 : (Try.pinned.checked.prog.make == some Rows.fnExactSolveSystemRow.make) = true := pf_make
  unfold joinedFacts
  rw [pf_laid, pf_maps, pf_heard, pf_enter, h1, h2]
  show _ = true
  kernel_rfl
theorem fnExactSolveSystem_instance : Try.f5.isInstance Try.pinned.checked.prog Rows.fnExactSolveSystemRow.origin Rows.fnExactSolveSystemRow.targs := of_decide_eq_true (by kernel_rfl)
theorem fnExactSolveSystem_wrapper : Try.f5.isWrapper Try.pinned.checked.prog Rows.fnExactSolveSystemRow.wrapper Rows.fnExactSolveSystemRow.mainSum := by
  unfold Func.isWrapper; first | (rw [if_pos (by decide +kernel)]; kernel_rfl) | (rw [if_neg (by decide +kernel)]; exact ⟨rfl, rfl⟩)

theorem fnExactSolveSystem_holds : Rows.FnExactSolveSystemSaid :=
  holds_row 5 Try.f5 rfl rfl rfl rfl rfl rfl rfl ⟨rfl, rfl, rfl, rfl, rfl⟩ rfl rfl rfl rfl fnExactSolveSystem_named Try.func5 fnExactSolveSystem_closed
    fnExactSolveSystem_instance fnExactSolveSystem_wrapper (fun os started H enc _ => fnExactSolveSystem_lifted os started H enc)

end Go.Proofs.Ytahdkdpliphcnaa

