
import Derived.Test.YtdhjcgbaaghnoaaLLV
import Derived.Test.YtdhjcgbaaghnoaaLY3
import Derived.Test.YtdhjcgbaaghnoaaLE0
import Derived.Test.YtdhjcgbaaghnoaaLYU
/- FnSumMeet: whatever comes in, the law returns true, and all that came in reads as it did. -/
namespace Go.Proofs.Ytdhjcgbaaghnoaa
open Go.ChangeShapes Go.WideShapes Go.ChangeAt Go.RowKit Go.Joins

set_option maxRecDepth 100000 in
set_option maxHeartbeats 4000000 in
theorem fnSumMeet_lifted (os : Os) (started : os.Started) (H : Type) (enc : TypeId × Value → H) :
    ReturnsInHanded {} Try.checked os 11 .any (Rows.fnSumMeetSpec.pre6 enc Try.prog Try.f11 Rows.fnSumMeetRow.domain false) (Rows.fnSumMeetSpec.post enc Try.prog Try.f11 false true false false) := by
  refine returnsInHanded_of_change (C := Try.checked) Try.own started (by kernel_rfl) Try.func11
    (ChangeSpec.witness6 (enc := enc) (C := Try.checked) false ⟨#[], #[.slice none 0 0], []⟩ 8 (by kernel_rfl) (by kernel_rfl) (by kernel_rfl) (by kernel_rfl)) ?_
  intro W base args ds gs before hval0 hW _ _
  have hval : ∀ (j : Nat) t v, Try.f11.params[j]? = some t → args[j]? = some v → Value.okWide Try.prog W .any base t v := hval0
  have hW' := hW
  obtain ⟨p, q, hA0, hV, rfl, _, _⟩ := hW
  have hA : DataW.TrodAll enc Try.prog W 0 (fun _ => true) true Try.f11.params.toList args.toList ds p := hA0
  rw [Try.params11] at hA hval
  obtain ⟨v0, d0, rfl, rfl, h0⟩ := trodAll_one hA
  obtain ⟨rfl, rfl⟩ := trodVars_none hV
  clear hA0 hval0
  simp only [List.append_nil] at hW'
  have hlt0 : ∀ x ∈ p, x.block < W.heap.size := fun x hx => by simpa using hW'.lt x (by simp [hx])
  obtain ⟨A0, n0, c0, rfl⟩ := Go.WideShapes.okWide_slice Try.underlying49 (hval 0 49 v0 rfl rfl)
  have hk0 := h0
  obtain ⟨fu0, ft0⟩ := hk0
  obtain ⟨A0', n0', c0', e0, hB0, hc0, hd0⟩ := bytes_of_trod (v := .slice A0 n0 c0) (by simpa [Value.cells] using ft0) hlt0
  cases e0
  refine (fnSumMeet_walk A0 n0 c0 W hB0 hc0 hd0).mono fun e W' ⟨he, hb⟩ => ?_
  subst he
  refine ⟨_, rfl, _, _, _, [], _, [], hW', trodAll_mk1 (shut_bool Try.underlying4 true), trodAll_mk1 (Below.trod Try.laidOut (by kernel_rfl) (of_decide_eq_true (by kernel_rfl)) h0 hb hlt0), rfl, hb.frame _, fun h => by cases h⟩

theorem fnSumMeet_named : Try.pinned.checked.prog.funcNamed Rows.fnSumMeetRow.func = some 11 := by kernel_rfl
theorem fnSumMeet_closed : joinedFacts Try.pinned.checked.prog 11 Try.f11 Rows.fnSumMeetSpec Rows.fnSumMeetRow = true := by
  have h1 : (Rows.fnSumMeetRow.lifted == Try.pinned.checked.prog.liftsFinal) = true := pf_lifts
  have h2 : (Try.pinned.checked.prog.make == some Rows.fnSumMeetRow.make) = true := pf_make
  unfold joinedFacts
  rw [pf_laid, pf_maps, pf_heard, pf_enter, h1, h2]
  show _ = true
  kernel_rfl
theorem fnSumMeet_instance : Try.f11.isInstance Try.pinned.checked.prog Rows.fnSumMeetRow.origin Rows.fnSumMeetRow.targs := of_decide_eq_true (by kernel_rfl)
theorem fnSumMeet_wrapper : Try.f11.isWrapper Try.pinned.checked.prog Rows.fnSumMeetRow.wrapper Rows.fnSumMeetRow.mainSum := by
  unfold Func.isWrapper; first | (rw [if_pos (by decide +kernel)]; kernel_rfl) | (rw [if_neg (by decide +kernel)]; exact ⟨rfl, rfl⟩)

theorem fnSumMeet_holds : Rows.FnSumMeetSaid :=
  holds_row 11 Try.f11 rfl rfl rfl rfl rfl rfl rfl ⟨rfl, rfl, rfl, rfl, rfl⟩ rfl rfl rfl rfl fnSumMeet_named Try.func11 fnSumMeet_closed
    fnSumMeet_instance fnSumMeet_wrapper (fun os started H enc _ => fnSumMeet_lifted os started H enc)

end Go.Proofs.Ytdhjcgbaaghnoaa
