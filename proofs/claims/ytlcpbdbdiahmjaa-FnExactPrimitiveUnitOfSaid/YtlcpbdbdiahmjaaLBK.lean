
import Derived.Test.YtlcpbdbdiahmjaaLLV
import Derived.Test.YtlcpbdbdiahmjaaNL
import Derived.Test.YtlcpbdbdiahmjaaLE0
import Derived.Test.YtlcpbdbdiahmjaaLBJ
import Derived.Test.YtlcpbdbdiahmjaaNN
/- FnExactPrimitiveUnitOf: whatever comes in, the law returns true, and all that came in reads as it did. -/
namespace Go.Proofs.Ytlcpbdbdiahmjaa
open Go.ChangeShapes Go.WideShapes Go.ChangeAt Go.RowKit Go.Joins

set_option maxRecDepth 100000 in
set_option maxHeartbeats 4000000 in
theorem fnExactPrimitiveUnitOf_lifted (os : Os) (started : os.Started) (H : Type) (enc : TypeId × Value → H) :
    ReturnsInHanded {} Try.checked os 9 .any (Rows.fnExactPrimitiveUnitOfSpec.pre6 enc Try.prog Try.f9 Rows.fnExactPrimitiveUnitOfRow.domain false) (Rows.fnExactPrimitiveUnitOfSpec.post enc Try.prog Try.f9 false true false false) := by
  refine returnsInHanded_of_change (C := Try.checked) Try.own started (by kernel_rfl) Try.func9
    (ChangeSpec.witness6 (enc := enc) (C := Try.checked) false ⟨#[], #[.agg #[.int .i64 0, .int .i64 0, .slice none 0 0, .slice none 0 0]], []⟩ 8 (by kernel_rfl) (by kernel_rfl) (by kernel_rfl) (by kernel_rfl)) ?_
  intro W base args ds gs before hval0 hW _ _
  have hval : ∀ (j : Nat) t v, Try.f9.params[j]? = some t → args[j]? = some v → Value.okWide Try.prog W .any base t v := hval0
  have hW' := hW
  obtain ⟨p, q, hA0, hV, rfl, _, _⟩ := hW
  have hA : DataW.TrodAll enc Try.prog W 0 (fun _ => true) true Try.f9.params.toList args.toList ds p := hA0
  rw [Try.params9] at hA hval
  obtain ⟨v0, d0, rfl, rfl, h0⟩ := trodAll_one hA
  obtain ⟨rfl, rfl⟩ := trodVars_none hV
  clear hA0 hval0
  simp only [List.append_nil] at hW'
  have hlt0 : ∀ x ∈ p, x.block < W.heap.size := fun x hx => by simpa using hW'.lt x (by simp [hx])
  obtain ⟨n, o, A, B, la, ca, lb, cb, X, Y, rfl, hX, hY, hla, hlb, hno, hn9⟩ := ring_of_trod (hval 0 45 v0 rfl rfl) h0 hlt0
  refine (fnExactPrimitiveUnitOf_walk n o A B la ca lb cb X Y (puV n o X Y) W hX hY hla hlb (fun A' B' w' h1 h2 => spu_any n o A' B' la la lb lb X Y w' h1 h2 hla hlb (Nat.le_refl _) (Nat.le_refl _)) (fun A' B' w' h1 h2 => pu_any n o A' B' la la lb lb X Y w' h1 h2 hla hlb (Nat.le_refl _) (Nat.le_refl _))).mono fun e W' ⟨he, hb⟩ => ?_
  subst he
  refine ⟨_, rfl, _, _, _, [], p, [], hW', trodAll_mk1 (shut_bool Try.underlying4 true), trodAll_mk1 (Below.trod Try.laidOut (by kernel_rfl) (of_decide_eq_true (by kernel_rfl)) h0 hb hlt0), rfl, hb.frame _, fun h => by cases h⟩

theorem fnExactPrimitiveUnitOf_named : Try.pinned.checked.prog.funcNamed Rows.fnExactPrimitiveUnitOfRow.func = some 9 := by kernel_rfl
theorem fnExactPrimitiveUnitOf_closed : joinedFacts Try.pinned.checked.prog 9 Try.f9 Rows.fnExactPrimitiveUnitOfSpec Rows.fnExactPrimitiveUnitOfRow = true := by
  have h1 : (Rows.fnExactPrimitiveUnitOfRow.lifted == Try.pinned.checked.prog.liftsFinal) = true := pf_lifts
  have h2 : (Try.pinned.checked.prog.make == some Rows.fnExactPrimitiveUnitOfRow.make) = true := pf_make
  unfold joinedFacts
  rw [pf_laid, pf_maps, pf_heard, pf_enter, h1, h2]
  show _ = true
  kernel_rfl
theorem fnExactPrimitiveUnitOf_instance : Try.f9.isInstance Try.pinned.checked.prog Rows.fnExactPrimitiveUnitOfRow.origin Rows.fnExactPrimitiveUnitOfRow.targs := of_decide_eq_true (by kernel_rfl)
theorem fnExactPrimitiveUnitOf_wrapper : Try.f9.isWrapper Try.pinned.checked.prog Rows.fnExactPrimitiveUnitOfRow.wrapper Rows.fnExactPrimitiveUnitOfRow.mainSum := by
  unfold Func.isWrapper; first | (rw [if_pos (by decide +kernel)]; kernel_rfl) | (rw [if_neg (by decide +kernel)]; exact ⟨rfl, rfl⟩)

theorem fnExactPrimitiveUnitOf_holds : Rows.FnExactPrimitiveUnitOfSaid :=
  holds_row 9 Try.f9 rfl rfl rfl rfl rfl rfl rfl ⟨rfl, rfl, rfl, rfl, rfl⟩ rfl rfl rfl rfl fnExactPrimitiveUnitOf_named Try.func9 fnExactPrimitiveUnitOf_closed
    fnExactPrimitiveUnitOf_instance fnExactPrimitiveUnitOf_wrapper (fun os started H enc _ => fnExactPrimitiveUnitOf_lifted os started H enc)

end Go.Proofs.Ytlcpbdbdiahmjaa

