
/- IsField of the reading side. -/
import Derived.Test.YtocoegekdamlbaaI8
namespace Go.Proofs.Ytocoegekdamlbaa
open Go.RowKit
set_option maxRecDepth 100000

theorem field_len {n o : Int} {X Y : List Int} (h : 1 < n) : fieldV n o X Y = decide (((kindsL n o X Y 0).length : Int) = n - 1) := by
  cases hv : validB n o X Y
  · rw [fieldV_no hv, kindsL_no (by rw [hv]; simp)]
    symm
    rw [decide_eq_false_iff_not]
    simp
    omega
  · unfold validB at hv
    rw [Bool.and_eq_true] at hv
    obtain ⟨m, e, rfl, rfl, hm, hm', he, _⟩ := fits_data hv.1
    have hv2 : validB m e X Y = true := by unfold validB; rw [Bool.and_eq_true]; exact hv
    rw [fieldV_yes hv2, kindsL_yes hv2, finI_len]
    unfold fieldB
    rw [decide_eq_true (show 1 < m by omega), Bool.true_and, decide_eq_decide]
    rw [selTo_congr (p := kindB m (tabOf Y) e 0) (q := unitB m (tabOf Y) e) (fun a _ => rfl) m (Nat.le_refl _)]
    omega
theorem field_small {n o : Int} {X Y : List Int} (h : ¬ 1 < n) : fieldV n o X Y = false := by
  cases hv : validB n o X Y
  · exact fieldV_no hv
  · have hv1 := hv
    unfold validB at hv
    rw [Bool.and_eq_true] at hv
    obtain ⟨m, e, rfl, rfl, hm, hm', he, _⟩ := fits_data hv.1
    rw [fieldV_yes hv1]
    unfold fieldB
    rw [decide_eq_false (show ¬ 1 < m by omega), Bool.false_and]

def ufMk (i : Nat) : Bool := i == 5
def ufPhi (L : Nat) (_ : Nat) (v : Value) (_ : World) : Prop := ∃ A c, v = .slice A L c
def ufSh (L : Nat) (_ : Nat) (v : Value) : Prop := ∃ A c, v = .slice A L c

set_option maxHeartbeats 4000000 in
theorem sisField_any (n o : Int) (A B : Option Addr) (la ca lb cb : Nat) (X Y : List Int) (w : World) (hX : Ints w w.heap.size A la X) (hY : Ints w w.heap.size B lb Y) (hla : la ≤ 9223372036854775807) (hlb : lb ≤ 9223372036854775807) (hca : la ≤ ca) (hcb : lb ≤ cb) (hn1 : n ≤ 9223372036854775807) :
    Calls Try.prog 44 #[.agg #[.int .i64 n, .int .i64 o, .slice A la ca, .slice B lb cb]] w fun e' w' => e' = .returned (.bool (fieldV n o X Y)) ∧ Below w.heap.size w w' := by
  obtain ⟨W, hW⟩ : ∃ W, w.alloc (.cells #[.int .i64 n, .int .i64 o, .slice A la ca, .slice B lb cb] 28) = W := ⟨_, rfl⟩
  have k0 : Blk W w.heap.size 28 #[.int .i64 n, .int .i64 o, .slice A la ca, .slice B lb cb] := by
    subst hW; exact Blk.new w _ _
  have b0 : Below w.heap.size w W := by
    subst hW; exact (Below.refl _ _).alloc (Nat.le_refl _) _
  have HX0 := Lib.hid hX
  have HY0 := Lib.hid hY
  have B0 := Lib.hid b0
  have HW := Lib.hid hW
  have hs0 := k0.lt
  obtain ⟨c0, c1, c2, c3⟩ := blk4 k0
  clear hX hY b0 hW k0
  by_cases h : 1 < n
  · have hz := Lib.hid (field_len (o := o) (X := X) (Y := Y) h)
    have hwr : IntKind.i64.wrap (n - 1) = n - 1 := IntWalk.i64_in _ (by omega)
    obtain ⟨L, hL⟩ : ∃ L, (kindsL n o X Y 0).length = L := ⟨_, rfl⟩
    have HL := Lib.hid hL
    have tt : ((L : Int) == n - 1) = fieldV n o X Y := by
      rw [hz.out, hL]
      by_cases q : (L : Int) = n - 1
      · rw [decide_eq_true q, beq_iff_eq]; exact q
      · rw [decide_eq_false q, beq_eq_false_iff_ne]; exact q
    clear hL
    go_enter Try.func44, Try.ntmps44
    go_wp2_with (fail)
    rw [HW.out]
    refine wp_region_makersE 12 ufMk (ufPhi L) (ufSh L) (fun _ => .slice none L 0) probe (by kernel_rfl) (by kernel_rfl) (fun i v w w' h _ => h) (fun i v x _ h => h) (fun i _ => ⟨none, 0, rfl⟩) ?_
    intro V hV vs hvs
    obtain ⟨A5, c5, e5⟩ := hvs 5 rfl
    have cW : ∃ x, extC V x := ⟨V, extC_of (Below.refl _ _)⟩
    have kx : ∀ x, extC V x → Below w.heap.size w x := fun x ⟨u, hu⟩ => by rw [hu]; exact below_step (below_step B0.out hV) (ext_below V u)
    obtain ⟨f0, f1, f2, f3, hsV⟩ := box4_next hV (by omega) c0 c1 c2 c3
    simp only [List.take_succ_cons, List.take_zero, List.drop_succ_cons, List.drop_zero]
    refine wpV_quietE cW 5 0 _ _ (by decide) (by decide) ?_
    simp only [List.take_succ_cons, List.take_zero, List.drop_succ_cons, List.drop_zero]
    repeat (go_big_quiet_step (fail))
    refine wpQuiet_nil ?_
    refine wpV_makeE rfl (by simp [Region.wanted, yielded]) (fun x hx _ => ?_) ?_
    · unfold makesAtE
      go_simp
      refine ⟨rfl, (skind0_any n o A B la ca lb cb X Y x (HX0.out.next (kx x hx)) (HY0.out.next (kx x hx)) hla hlb hca hcb).mono ?_⟩
      rintro _ x' ⟨v, rfl, ⟨A7, l7, c7, rfl, ho, _⟩, hb⟩
      exact ⟨_, rfl, hb, ⟨A7, c7, by rw [← ho.1, HL.out]⟩, fun b hbb => (by cases hbb)⟩
    rw [e5]
    go_simp
    refine wpV_quietE cW 6 _ _ _ (by decide) (by decide) ?_
    simp only [List.take_succ_cons, List.take_zero, List.drop_succ_cons, List.drop_zero]
    repeat (go_big_quiet_step (fail))
    refine wpQuiet_nil ?_
    refine wpV_nilE ?_
    intro w3 hb3 _ _
    have BB := Lib.hid (below_step B0.out hb3)
    clear hb3
    go_wp2
    go_ret
    exact ⟨rfl, BB.out⟩
  · have hz := Lib.hid (field_small (o := o) (X := X) (Y := Y) h)
    have hd : decide (1 < n) = false := decide_eq_false h
    have h' : n ≤ 1 := by omega
    go_enter Try.func44, Try.ntmps44
    go_wp2_with (fail)
    rw [HW.out]
    refine wp_region_ext (by kernel_rfl) (by kernel_rfl) ?_
    repeat (go_big_quiet_step (fail))
    refine wpQuiet_nil ?_
    intro w2 hb2
    go_wp2
    go_ret
    exact ⟨ret_bool hz.out.symm, below_step B0.out hb2⟩

end Go.Proofs.Ytocoegekdamlbaa
