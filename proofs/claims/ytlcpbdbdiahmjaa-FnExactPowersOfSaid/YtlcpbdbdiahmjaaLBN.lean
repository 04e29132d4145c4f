
import Derived.Test.YtlcpbdbdiahmjaaLLV
import Derived.Test.YtlcpbdbdiahmjaaNL
import Derived.Test.YtlcpbdbdiahmjaaLE0
import Derived.Test.YtlcpbdbdiahmjaaLBM
import Derived.Test.YtlcpbdbdiahmjaaNN
/- FnExactPowersOf: whatever comes in, the law returns true, and all that came in reads as it did. -/
namespace Go.Proofs.Ytlcpbdbdiahmjaa
open Go.ChangeShapes Go.WideShapes Go.ChangeAt Go.RowKit Go.Joins

set_option maxRecDepth 100000 in
set_option maxHeartbeats 4000000 in
theorem fnExactPowersOf_lifted (os : Os) (started : os.Started) (H : Type) (enc : TypeId × Value → H) :
    ReturnsInHanded {} Try.checked os 10 .any (Rows.fnExactPowersOfSpec.pre6 enc Try.prog Try.f10 Rows.fnExactPowersOfRow.domain false) (Rows.fnExactPowersOfSpec.post enc Try.prog Try.f10 false true false false) := by
  refine returnsInHanded_of_change (C := Try.checked) Try.own started (by kernel_rfl) Try.func10
    (ChangeSpec.witness6 (enc := enc) (C := Try.checked) false ⟨#[], #[.agg #[.int .i64 0, .int .i64 0, .slice none 0 0, .slice none 0 0], .int .i64 0], []⟩ 8 (by kernel_rfl) (by kernel_rfl) (by kernel_rfl) (by kernel_rfl)) ?_
  intro W base args ds gs before hval0 hW _ _
  have hval : ∀ (j : Nat) t v, Try.f10.params[j]? = some t → args[j]? = some v → Value.okWide Try.prog W .any base t v := hval0
  have hW' := hW
  obtain ⟨p, q, hA0, hV, rfl, _, _⟩ := hW
  have hA : DataW.TrodAll enc Try.prog W 0 (fun _ => true) true Try.f10.params.toList args.toList ds p := hA0
  rw [Try.params10] at hA hval
  obtain ⟨v0, v1, d0, d1, p0, p1, rfl, rfl, rfl, h0, h1⟩ := trodAll_two hA
  obtain ⟨rfl, rfl⟩ := trodVars_none hV
  obtain ⟨x1, rfl, rfl, rfl, wf1⟩ := open_int Try.underlying3 (hval 1 3 v1 rfl rfl) h1
  clear hA0 hval0
  simp only [List.append_nil] at hW'
  have hlt0 : ∀ x ∈ p0, x.block < W.heap.size := fun x hx => by simpa using hW'.lt x (by simp [hx])
  obtain ⟨n, o, A, B, la, ca, lb, cb, X, Y, rfl, hX, hY, hla, hlb, hno, hn9⟩ := ring_of_trod (hval 0 45 v0 rfl rfl) h0 hlt0
  refine (fnExactPowersOf_walk n o A B la ca lb cb X Y x1 (pwlV n o X Y x1) W hX hY hla hlb (fun A' B' w' h1 h2 => spowl_any n o A' B' la la lb lb X Y x1 w' h1 h2 hla hlb (Nat.le_refl _) (Nat.le_refl _)) (fun A' B' w' h1 h2 => powl_any n o A' B' la la lb lb X Y x1 w' h1 h2 hla hlb (Nat.le_refl _) (Nat.le_refl _))).mono fun e W' ⟨he, hb⟩ => ?_
  subst he
  refine ⟨_, rfl, _, _, _, [], _, [], hW', trodAll_mk1 (shut_bool Try.underlying4 true), trodAll_mk2 (Below.trod Try.laidOut (by kernel_rfl) (of_decide_eq_true (by kernel_rfl)) h0 hb hlt0) (shut_int Try.underlying3 wf1), rfl, hb.frame _, fun h => by cases h⟩

theorem fnExactPowersOf_named : Try.pinned.checked.prog.funcNamed Rows.fnExactPowersOfRow.func = some 10 := by kernel_rfl
theorem fnExactPowersOf_closed : joinedFacts Try.pinned.checked.prog 10 Try.f10 Rows.fnExactPowersOfSpec Rows.fnExactPowersOfRow = true := by
  have h1 : (Rows.fnExactPowersOfRow.lifted == Try.pinned.checked.prog.liftsFinal) = true := pf_lifts
  have h2 : (Try.pinned.checked.prog.make == some Rows.fnExactPowersOfRow.make) = true := pf_make
  unfold joinedFacts
  rw [pf_laid, pf_maps, pf_heard, pf_enter, h1, h2]
  show _ = true
  kernel_rfl
theorem fnExactPowersOf_instance : Try.f10.isInstance Try.pinned.checked.prog Rows.fnExactPowersOfRow.origin Rows.fnExactPowersOfRow.targs := of_decide_eq_true (by kernel_rfl)
theorem fnExactPowersOf_wrapper : Try.f10.isWrapper Try.pinned.checked.prog Rows.fnExactPowersOfRow.wrapper Rows.fnExactPowersOfRow.mainSum := by
  unfold Func.isWrapper; first | (rw [if_pos (by decide +kernel)]; kernel_rfl) | (rw [if_neg (by decide +kernel)]; exact ⟨rfl, rfl⟩)

theorem fnExactPowersOf_holds : Rows.FnExactPowersOfSaid :=
  holds_row 10 Try.f10 rfl rfl rfl rfl rfl rfl rfl ⟨rfl, rfl, rfl, rfl, rfl⟩ rfl rfl rfl rfl fnExactPowersOf_named Try.func10 fnExactPowersOf_closed
    fnExactPowersOf_instance fnExactPowersOf_wrapper (fun os started H enc _ => fnExactPowersOf_lifted os started H enc)

end Go.Proofs.Ytlcpbdbdiahmjaa

