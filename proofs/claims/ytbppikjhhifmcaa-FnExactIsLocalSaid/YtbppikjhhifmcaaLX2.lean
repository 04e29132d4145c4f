
import Derived.Test.YtbppikjhhifmcaaLLV
import Derived.Test.YtbppikjhhifmcaaLD0
import Derived.Test.YtbppikjhhifmcaaLE0
import Derived.Test.YtbppikjhhifmcaaLX1
import Derived.Test.YtbppikjhhifmcaaND
/- FnExactIsLocal: whatever comes in, the law returns true, and all that came in reads as it did. -/
namespace Go.Proofs.Ytbppikjhhifmcaa
open Go.ChangeShapes Go.WideShapes Go.ChangeAt Go.RowKit Go.Joins

set_option maxRecDepth 100000 in
set_option maxHeartbeats 4000000 in
theorem fnExactIsLocal_lifted (os : Os) (started : os.Started) (H : Type) (enc : TypeId × Value → H) :
    ReturnsInHanded {} Try.checked os 3 .any (Rows.fnExactIsLocalSpec.pre6 enc Try.prog Try.f3 Rows.fnExactIsLocalRow.domain false) (Rows.fnExactIsLocalSpec.post enc Try.prog Try.f3 false true false false) := by
  refine returnsInHanded_of_change (C := Try.checked) Try.own started (by kernel_rfl) Try.func3
    (ChangeSpec.witness6 (enc := enc) (C := Try.checked) false ⟨#[], #[.agg #[.int .i64 0, .int .i64 0, .slice none 0 0, .slice none 0 0]], []⟩ 8 (by kernel_rfl) (by kernel_rfl) (by kernel_rfl) (by kernel_rfl)) ?_
  intro W base args ds gs before hval0 hW _ _
  have hval : ∀ (j : Nat) t v, Try.f3.params[j]? = some t → args[j]? = some v → Value.okWide Try.prog W .any base t v := hval0
  have hW' := hW
  obtain ⟨p, q, hA0, hV, rfl, _, _⟩ := hW
  have hA : DataW.TrodAll enc Try.prog W 0 (fun _ => true) true Try.f3.params.toList args.toList ds p := hA0
  rw [Try.params3] at hA hval
  obtain ⟨v0, d0, rfl, rfl, h0⟩ := trodAll_one hA
  obtain ⟨rfl, rfl⟩ := trodVars_none hV
  clear hA0 hval0
  simp only [List.append_nil] at hW'
  have hlt0 : ∀ x ∈ p, x.block < W.heap.size := fun x hx => by simpa using hW'.lt x (by simp [hx])
  obtain ⟨n, o, A, B, la, ca, lb, cb, X, Y, rfl, hX, hY, hla, hlb, hno, hn9⟩ := ring_of_trod (hval 0 24 v0 rfl rfl) h0 hlt0
  refine (fnExactIsLocal_walk n o A B la ca lb cb X Y ((resL n o X Y).length == 1) W hX hY hla hlb (fun A' B' w' h1 h2 => sloc_any n o A' B' la la lb lb X Y w' h1 h2 hla hlb (Nat.le_refl _) (Nat.le_refl _)) (fun A' B' w' h1 h2 => loc_any n o A' B' la la lb lb X Y w' h1 h2 hla hlb (Nat.le_refl _) (Nat.le_refl _))).mono fun e W' ⟨he, hb⟩ => ?_
  subst he
  refine ⟨_, rfl, _, _, _, [], p, [], hW', trodAll_mk1 (shut_bool Try.underlying4 true), trodAll_mk1 (Below.trod Try.laidOut (by kernel_rfl) (of_decide_eq_true (by kernel_rfl)) h0 hb hlt0), rfl, hb.frame _, fun h => by cases h⟩

theorem fnExactIsLocal_named : Try.pinned.checked.prog.funcNamed Rows.fnExactIsLocalRow.func = some 3 := by kernel_rfl
theorem fnExactIsLocal_closed : joinedFacts Try.pinned.checked.prog 3 Try.f3 Rows.fnExactIsLocalSpec Rows.fnExactIsLocalRow = true := by
  have h1 : (Rows.fnExactIsLocalRow.lifted == Try.pinned.checked.prog.liftsFinal) = true := pf_lifts
  have h2 : (Try.pinned.checked.prog.make == some Rows.fnExactIsLocalRow.make) = true := pf_make
  unfold joinedFacts
  rw [pf_laid, pf_maps, pf_heard, pf_enter, h1, h2]
  show _ = true
  kernel_rfl
theorem fnExactIsLocal_instance : Try.f3.isInstance Try.pinned.checked.prog Rows.fnExactIsLocalRow.origin Rows.fnExactIsLocalRow.targs := of_decide_eq_true (by kernel_rfl)
theorem fnExactIsLocal_wrapper : Try.f3.isWrapper Try.pinned.checked.prog Rows.fnExactIsLocalRow.wrapper Rows.fnExactIsLocalRow.mainSum := by
  unfold Func.isWrapper; first | (rw [if_pos (by decide +kernel)]; kernel_rfl) | (rw [if_neg (by decide +kernel)]; exact ⟨rfl, rfl⟩)

theorem fnExactIsLocal_holds : Rows.FnExactIsLocalSaid :=
  holds_row 3 Try.f3 rfl rfl rfl rfl rfl rfl rfl ⟨rfl, rfl, rfl, rfl, rfl⟩ rfl rfl rfl rfl fnExactIsLocal_named Try.func3 fnExactIsLocal_closed
    fnExactIsLocal_instance fnExactIsLocal_wrapper (fun os started H enc _ => fnExactIsLocal_lifted os started H enc)

end Go.Proofs.Ytbppikjhhifmcaa

