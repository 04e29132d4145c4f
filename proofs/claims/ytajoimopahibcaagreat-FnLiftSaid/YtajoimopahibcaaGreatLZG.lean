
import Derived.Test.YtajoimopahibcaaGreatLLV
import Derived.Test.YtajoimopahibcaaGreatLY3
import Derived.Test.YtajoimopahibcaaGreatLE0
import Derived.Test.YtajoimopahibcaaGreatLZF
/- FnLift: whatever comes in, the law returns true, and all that came in reads as it did. -/
namespace Go.Proofs.YtajoimopahibcaaGreat
open Go.ChangeShapes Go.WideShapes Go.ChangeAt Go.RowKit Go.Joins

set_option maxRecDepth 100000 in
set_option maxHeartbeats 4000000 in
theorem fnLift_lifted (os : Os) (started : os.Started) (H : Type) (enc : TypeId × Value → H) :
    ReturnsInHanded {} Tryz.checked os 6 .any (Rows.fnLiftSpec.pre6 enc Tryz.prog Tryz.f6 Rows.fnLiftRow.domain false) (Rows.fnLiftSpec.post enc Tryz.prog Tryz.f6 false true false false) := by
  refine returnsInHanded_of_change (C := Tryz.checked) Tryz.own started (by kernel_rfl) Tryz.func6
    (ChangeSpec.witness6 (enc := enc) (C := Tryz.checked) false ⟨#[], #[.slice none 0 0], []⟩ 8 (by kernel_rfl) (by kernel_rfl) (by kernel_rfl) (by kernel_rfl)) ?_
  intro W base args ds gs before hval0 hW _ _
  have hval : ∀ (j : Nat) t v, Tryz.f6.params[j]? = some t → args[j]? = some v → Value.okWide Tryz.prog W .any base t v := hval0
  have hW' := hW
  obtain ⟨p, q, hA0, hV, rfl, _, _⟩ := hW
  have hA : DataW.TrodAll enc Tryz.prog W 0 (fun _ => true) true Tryz.f6.params.toList args.toList ds p := hA0
  rw [Tryz.params6] at hA hval
  obtain ⟨v0, d0, rfl, rfl, h0⟩ := trodAll_one hA
  obtain ⟨rfl, rfl⟩ := trodVars_none hV
  clear hA0 hval0
  simp only [List.append_nil] at hW'
  have hlt0 : ∀ x ∈ p, x.block < W.heap.size := fun x hx => by simpa using hW'.lt x (by simp [hx])
  obtain ⟨A0, n0, c0, rfl⟩ := Go.WideShapes.okWide_slice Tryz.underlying22 (hval 0 22 v0 rfl rfl)
  have hk0 := h0
  obtain ⟨fu0, ft0⟩ := hk0
  obtain ⟨A0', n0', c0', e0, hB0, hc0, hd0⟩ := bytes_of_trod (v := .slice A0 n0 c0) (by simpa [Value.cells] using ft0) hlt0
  cases e0
  refine (fnLift_walk A0 n0 c0 W hB0 hc0 hd0).mono fun e W' ⟨he, hb⟩ => ?_
  subst he
  refine ⟨_, rfl, _, _, _, [], _, [], hW', trodAll_mk1 (shut_bool Tryz.underlying4 true), trodAll_mk1 (Below.trod Tryz.laidOut (by kernel_rfl) (of_decide_eq_true (by kernel_rfl)) h0 hb hlt0), rfl, hb.frame _, fun h => by cases h⟩

theorem fnLift_named : Tryz.pinned.checked.prog.funcNamed Rows.fnLiftRow.func = some 6 := by kernel_rfl
theorem fnLift_closed : joinedFacts Tryz.pinned.checked.prog 6 Tryz.f6 Rows.fnLiftSpec Rows.fnLiftRow = true := by
  have h1 : (Rows.fnLiftRow.lifted == Tryz.pinned.checked.prog.liftsFinal) = true := pf_lifts
  have h2 : (Tryz.pinned.checked.prog.make == some Rows.fnLiftRow.make) = true := pf_make
  unfold joinedFacts
  rw [pf_laid, pf_maps, pf_heard, pf_enter, h1, h2]
  show _ = true
  kernel_rfl
theorem fnLift_instance : Tryz.f6.isInstance Tryz.pinned.checked.prog Rows.fnLiftRow.origin Rows.fnLiftRow.targs := of_decide_eq_true (by kernel_rfl)
theorem fnLift_wrapper : Tryz.f6.isWrapper Tryz.pinned.checked.prog Rows.fnLiftRow.wrapper Rows.fnLiftRow.mainSum := by
  unfold Func.isWrapper; first | (rw [if_pos (by decide +kernel)]; kernel_rfl) | (rw [if_neg (by decide +kernel)]; exact ⟨rfl, rfl⟩)

theorem fnLift_holds : Rows.FnLiftSaid :=
  holds_row 6 Tryz.f6 rfl rfl rfl rfl rfl rfl rfl ⟨rfl, rfl, rfl, rfl, rfl⟩ rfl rfl rfl rfl fnLift_named Tryz.func6 fnLift_closed
    fnLift_instance fnLift_wrapper (fun os started H enc _ => fnLift_lifted os started H enc)

end Go.Proofs.YtajoimopahibcaaGreat

