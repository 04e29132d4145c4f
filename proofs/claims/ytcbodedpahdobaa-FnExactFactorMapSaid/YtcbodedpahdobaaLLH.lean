
import Derived.Test.YtcbodedpahdobaaLD0
import Derived.Test.YtcbodedpahdobaaLE0
import Derived.Test.YtcbodedpahdobaaLLG
import Derived.Test.YtcbodedpahdobaaMX
/- FnExactFactorMap: whatever comes in, the law returns true, and all that came in reads as it did. -/
namespace Go.Proofs.Ytcbodedpahdobaa
open Go.ChangeShapes Go.WideShapes Go.ChangeAt Go.RowKit Go.Joins

set_option maxRecDepth 100000 in
set_option maxHeartbeats 4000000 in
theorem fnExactFactorMap_lifted (os : Os) (started : os.Started) (H : Type) (enc : TypeId × Value → H) :
    ReturnsInHanded {} Try.checked os 14 .any (Rows.fnExactFactorMapSpec.pre6 enc Try.prog Try.f14 Rows.fnExactFactorMapRow.domain false) (Rows.fnExactFactorMapSpec.post enc Try.prog Try.f14 false true false false) := by
  refine returnsInHanded_of_change (C := Try.checked) Try.own started (by kernel_rfl) Try.func14
    (ChangeSpec.witness6 (enc := enc) (C := Try.checked) false ⟨#[], #[.agg #[.int .i64 0, .int .i64 0, .slice none 0 0, .slice none 0 0], .agg #[.int .i64 0, .int .i64 0, .slice none 0 0, .slice none 0 0], .slice none 0 0], []⟩ 8 (by kernel_rfl) (by kernel_rfl) (by kernel_rfl) (by kernel_rfl)) ?_
  intro W base args ds gs before hval0 hW _ _
  have hval : ∀ (j : Nat) t v, Try.f14.params[j]? = some t → args[j]? = some v → Value.okWide Try.prog W .any base t v := hval0
  have hW' := hW
  obtain ⟨p, q, hA0, hV, rfl, _, _⟩ := hW
  have hA : DataW.TrodAll enc Try.prog W 0 (fun _ => true) true Try.f14.params.toList args.toList ds p := hA0
  rw [Try.params14] at hA hval
  obtain ⟨v0, v1, v2, d0, d1, d2, p0, p1, p2, rfl, rfl, rfl, h0, h1, h2⟩ := trodAll_three hA
  obtain ⟨rfl, rfl⟩ := trodVars_none hV
  clear hA0 hval0
  simp only [List.append_nil, List.append_assoc] at hW'
  have hlt0 : ∀ x ∈ p0, x.block < W.heap.size := fun x hx => by simpa using hW'.lt x (by simp [hx])
  obtain ⟨n0, o0, A0, B0, la0, ca0, lb0, cb0, X0, Y0, rfl, hX0, hY0, hla0, hlb0, _⟩ := ring_of_trod (hval 0 37 v0 rfl rfl) h0 hlt0
  have hlt1 : ∀ x ∈ p1, x.block < W.heap.size := fun x hx => by simpa using hW'.lt x (by simp [hx])
  obtain ⟨n1, o1, A1, B1, la1, ca1, lb1, cb1, X1, Y1, rfl, hX1, hY1, hla1, hlb1, _⟩ := ring_of_trod (hval 1 37 v1 rfl rfl) h1 hlt1
  have hlt2 : ∀ x ∈ p2, x.block < W.heap.size := fun x hx => by simpa using hW'.lt x (by simp [hx])
  obtain ⟨F2, f2, cf2, rfl⟩ := Go.WideShapes.okWide_slice Try.underlying23 (hval 2 23 v2 rfl rfl)
  obtain ⟨fu2, ft2⟩ := h2
  obtain ⟨F2', f2', cf2', X2, e2, hF2, hf2, _⟩ := ints_of_trod (v := .slice F2 f2 cf2) Try.underlying23 (by simpa [Value.cells] using ft2) hlt2
  cases e2
  have h2 : DataW.Trod _ Try.prog W 0 (fun _ => true) true 23 (.slice F2 f2 cf2) d2 p2 := ⟨fu2, ft2⟩
  refine (fnExactFactorMap_walk n0 o0 A0 B0 la0 ca0 lb0 cb0 X0 Y0 n1 o1 A1 B1 la1 ca1 lb1 cb1 X1 Y1 F2 f2 cf2 X2 (facL n0 o0 X0 Y0 n1 o1 X1 Y1 X2) (isHomB n0 o0 X0 Y0 n1 o1 X1 Y1 X2) W hX0 hY0 hla0 hlb0 hX1 hY1 hla1 hlb1 hF2 hf2 (fun A B A' B' C w' h1 h2 h3 h4 g => sfac_any n0 o0 A B la0 la0 lb0 lb0 X0 Y0 n1 o1 A' B' la1 la1 lb1 lb1 X1 Y1 C f2 f2 X2 w' h1 h2 hla0 hlb0 (Nat.le_refl _) (Nat.le_refl _) h3 h4 hla1 hlb1 (Nat.le_refl _) (Nat.le_refl _) g hf2) (fun A B A' B' C w' h1 h2 h3 h4 g => fac_any n0 o0 A B la0 la0 lb0 lb0 X0 Y0 n1 o1 A' B' la1 la1 lb1 lb1 X1 Y1 C f2 f2 X2 w' h1 h2 hla0 hlb0 (Nat.le_refl _) (Nat.le_refl _) h3 h4 hla1 hlb1 (Nat.le_refl _) (Nat.le_refl _) g hf2)).mono fun e W' ⟨he, hb⟩ => ?_
  subst he
  refine ⟨_, rfl, _, _, _, [], _, [], hW', trodAll_mk1 (shut_bool Try.underlying4 true), trodAll_mk3 (Below.trod Try.laidOut (by kernel_rfl) (of_decide_eq_true (by kernel_rfl)) h0 hb hlt0) (Below.trod Try.laidOut (by kernel_rfl) (of_decide_eq_true (by kernel_rfl)) h1 hb hlt1) (Below.trod Try.laidOut (by kernel_rfl) (of_decide_eq_true (by kernel_rfl)) h2 hb hlt2), rfl, hb.frame _, fun h => by cases h⟩

theorem fnExactFactorMap_named : Try.pinned.checked.prog.funcNamed Rows.fnExactFactorMapRow.func = some 14 := by kernel_rfl
theorem fnExactFactorMap_closed : joinedFacts Try.pinned.checked.prog 14 Try.f14 Rows.fnExactFactorMapSpec Rows.fnExactFactorMapRow = true := by
  have h1 : (Rows.fnExactFactorMapRow.lifted == Try.pinned.checked.prog.liftsFinal) = true := pf_lifts
  have h2 : (Try.pinned.checked.prog.make == some Rows.fnExactFactorMapRow.make) = true := pf_make
  unfold joinedFacts
  rw [pf_laid, pf_maps, pf_heard, pf_enter, h1, h2]
  show _ = true
  kernel_rfl
theorem fnExactFactorMap_instance : Try.f14.isInstance Try.pinned.checked.prog Rows.fnExactFactorMapRow.origin Rows.fnExactFactorMapRow.targs := of_decide_eq_true (by kernel_rfl)
theorem fnExactFactorMap_wrapper : Try.f14.isWrapper Try.pinned.checked.prog Rows.fnExactFactorMapRow.wrapper Rows.fnExactFactorMapRow.mainSum := by
  unfold Func.isWrapper; first | (rw [if_pos (by decide +kernel)]; kernel_rfl) | (rw [if_neg (by decide +kernel)]; exact ⟨rfl, rfl⟩)

theorem fnExactFactorMap_holds : Rows.FnExactFactorMapSaid :=
  OpenClaim.holds_of_wide 14 Try.f14 rfl rfl rfl rfl rfl rfl rfl ⟨rfl, rfl, rfl, rfl, rfl⟩ rfl rfl rfl rfl rfl fnExactFactorMap_named Try.func14 fnExactFactorMap_closed
    fnExactFactorMap_instance fnExactFactorMap_wrapper (fun os started H enc _ => fnExactFactorMap_lifted os started H enc)

end Go.Proofs.Ytcbodedpahdobaa
