/- FnExactParseRing: whatever comes in, the law returns true, and all that came in reads as it did. -/
import Derived.Test.YtplligjoegjngaaD0
import Derived.Test.YtplligjoegjngaaE0
import Derived.Test.YtplligjoegjngaaK3
import Derived.Test.YtplligjoegjngaaP10
import Derived.ChangeMaps5
namespace Go.Proofs.Ytplligjoegjngaa
open Go.ChangeShapes Go.WideShapes Go.ChangeAt Go.RowKit Go.Joins

theorem parse_exists (s : ByteArray) : ∃ ok n o X Y, ParseIs s ok n o X Y := by
  rcases Classical.em (∃ n o X Y, IsText s n o X Y) with ⟨n, o, X, Y, h⟩ | h
  · exact ⟨true, n, o, X, Y, .inl ⟨rfl, h⟩⟩
  · exact ⟨false, 0, 0, [], [], .inr ⟨rfl, fun n o X Y g => h ⟨n, o, X, Y, g⟩, rfl, rfl, rfl, rfl⟩⟩
theorem parse_fixed {f : FuncId} {s : ByteArray} {ok : Bool} {n o : Int} {X Y : List Int} (hP : ParseIs s ok n o X Y) {w : World}
    (h : Calls Try.prog f #[.string s] w fun e' w' => ∃ (v : Value) (n o : Int) (X Y : List Int) (ok : Bool), e' = .returned (.tuple #[v, .bool ok]) ∧ ParseIs s ok n o X Y ∧ RingOut w.heap.size w' v n o X Y ∧ Below w.heap.size w w') :
    Calls Try.prog f #[.string s] w fun e w' => ∃ v, e = .returned (.tuple #[v, .bool ok]) ∧ RingOut w.heap.size w' v n o X Y ∧ Below w.heap.size w w' :=
  h.mono fun e w' ⟨v, n', o', X', Y', ok', h1, h2, h3, h4⟩ => by
    obtain ⟨rfl, rfl, rfl, rfl, rfl⟩ := parse_unique hP h2
    exact ⟨v, h1, h3, h4⟩

set_option maxRecDepth 100000 in
theorem fnExactParseRing_lifted (os : Os) (started : os.Started) (H : Type) (enc : TypeId × Value → H) :
    ReturnsInHanded {} Try.checked os 11 .any (Rows.fnExactParseRingSpec.pre6 enc Try.prog Try.f11 Rows.fnExactParseRingRow.domain false) (Rows.fnExactParseRingSpec.post enc Try.prog Try.f11 false true false false) := by
  refine returnsInHanded_of_change (C := Try.checked) Try.own started (by kernel_rfl) Try.func11
    (ChangeSpec.witness6 (enc := enc) (C := Try.checked) false ⟨#[], #[.string ⟨#[]⟩], []⟩ 8 (by kernel_rfl) (by kernel_rfl) (by kernel_rfl) (by kernel_rfl)) ?_
  intro W base args ds gs before hval0 hW _ _
  have hval : ∀ (j : Nat) t v, Try.f11.params[j]? = some t → args[j]? = some v → Value.okWide Try.prog W .any base t v := hval0
  have hW' := hW
  obtain ⟨p, q, hA0, hV, rfl, _, _⟩ := hW
  have hA : DataW.TrodAll enc Try.prog W 0 (fun _ => true) true Try.f11.params.toList args.toList ds p := hA0
  rw [Try.params11] at hA hval
  obtain ⟨v0, d0, rfl, rfl, h0⟩ := trodAll_one hA
  obtain ⟨rfl, rfl⟩ := trodVars_none hV
  obtain ⟨x0, rfl, rfl, rfl, hl0⟩ := Go.ChangeMaps.open_string Try.underlying9 (hval 0 9 v0 rfl rfl) h0
  clear hA0 hval0
  simp only [List.append_nil] at hW'
  obtain ⟨ok, n, o, X, Y, hP⟩ := parse_exists x0
  refine (fnExactParseRing_walk x0 n o ok X Y W (fun h w => parse_fixed hP (sparse_any x0 w h)) (fun _ w => parse_fixed hP (parse_any x0 w))).mono fun e W' ⟨he, hb⟩ => ?_
  subst he
  refine ⟨_, rfl, _, _, _, [], _, [], hW', trodAll_mk1 (shut_bool Try.underlying4 true), trodAll_mk1 (Go.ChangeMaps.shut_string Try.underlying9 hl0), rfl, hb.frame _, fun h => by cases h⟩

theorem fnExactParseRing_named : Try.pinned.checked.prog.funcNamed Rows.fnExactParseRingRow.func = some 11 := by kernel_rfl
theorem fnExactParseRing_closed : joinedFacts Try.pinned.checked.prog 11 Try.f11 Rows.fnExactParseRingSpec Rows.fnExactParseRingRow = true := by
  have h1 : (Rows.fnExactParseRingRow.lifted == Try.pinned.checked.prog.liftsFinal) = true := pf_lifts
  have h2 : (Try.pinned.checked.prog.make == some Rows.fnExactParseRingRow.make) = true := pf_make
  unfold joinedFacts
  rw [pf_laid, pf_maps, pf_heard, pf_enter, h1, h2]
  show _ = true
  kernel_rfl
theorem fnExactParseRing_instance : Try.f11.isInstance Try.pinned.checked.prog Rows.fnExactParseRingRow.origin Rows.fnExactParseRingRow.targs := of_decide_eq_true (by kernel_rfl)
theorem fnExactParseRing_wrapper : Try.f11.isWrapper Try.pinned.checked.prog Rows.fnExactParseRingRow.wrapper Rows.fnExactParseRingRow.mainSum := by
  unfold Func.isWrapper; first | (rw [if_pos (by decide +kernel)]; kernel_rfl) | (rw [if_neg (by decide +kernel)]; exact ⟨rfl, rfl⟩)

theorem fnExactParseRing_holds : Rows.FnExactParseRingSaid :=
  OpenClaim.holds_of_wide 11 Try.f11 rfl rfl rfl rfl rfl rfl rfl ⟨rfl, rfl, rfl, rfl, rfl⟩ rfl rfl rfl rfl rfl fnExactParseRing_named Try.func11 fnExactParseRing_closed
    fnExactParseRing_instance fnExactParseRing_wrapper (fun os started H enc _ => fnExactParseRing_lifted os started H enc)

end Go.Proofs.Ytplligjoegjngaa
