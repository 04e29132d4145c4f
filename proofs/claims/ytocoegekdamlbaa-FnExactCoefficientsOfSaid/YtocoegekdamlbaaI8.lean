
/- IsField of both sides. -/
import Derived.Test.YtocoegekdamlbaaI7
namespace Go.Proofs.Ytocoegekdamlbaa
open Go.RowKit Go.Shelf
set_option maxRecDepth 100000

noncomputable def fieldV (n o : Int) (X Y : List Int) : Bool := validB n o X Y && fieldB n.toNat (tabOf Y) o.toNat
theorem fieldV_no {n o : Int} {X Y : List Int} (h : validB n o X Y = false) : fieldV n o X Y = false := by unfold fieldV; rw [h]; rfl
theorem fieldV_yes {m e : Nat} {X Y : List Int} (h : validB m e X Y = true) : fieldV m e X Y = fieldB m (tabOf Y) e := by unfold fieldV; rw [h]; rfl

def ifMk (i : Nat) : Bool := i == 1 || i == 2 || i == 5 || i == 6
abbrev seqV (Br Bp : Nat) : Value := .func (.func 95) #[] #[.pointer (some ⟨Br, 0, none⟩), .pointer (some ⟨Bp, 0, none⟩)]
structure IfPhi (R : Value) (rc U N : Array Value) (i : Nat) (v : Value) (w : World) : Prop where
  p1 : i = 1 → ∃ Br Bp, v = seqV Br Bp ∧ Blk w Br 28 rc ∧ Blk w Bp 63 #[.func (.func (testF 0)) #[R] #[]]
  p2 : i = 2 → v = .agg U
  p5 : i = 5 → ∃ Br Bp, v = seqV Br Bp ∧ Blk w Br 28 rc ∧ Blk w Bp 63 #[.func (.func 78) #[] #[]]
  p6 : i = 6 → v = .agg N
structure IfSh (U N : Array Value) (i : Nat) (v : Value) : Prop where
  p1 : i = 1 → ∃ Br Bp, v = seqV Br Bp
  p2 : i = 2 → v = .agg U
  p5 : i = 5 → ∃ Br Bp, v = seqV Br Bp
  p6 : i = 6 → v = .agg N
theorem IfPhi_stable {R : Value} {rc U N : Array Value} (i : Nat) (v : Value) (w w' : World) (h : IfPhi R rc U N i v w) (hb : Below w.heap.size w w') : IfPhi R rc U N i v w' :=
  ⟨fun e => by obtain ⟨x, y, h1, h2, h3⟩ := h.p1 e; exact ⟨x, y, h1, h2.next hb, h3.next hb⟩, h.p2, fun e => by obtain ⟨x, y, h1, h2, h3⟩ := h.p5 e; exact ⟨x, y, h1, h2.next hb, h3.next hb⟩, h.p6⟩
theorem IfSh_of {R : Value} {rc U N : Array Value} (i : Nat) (v : Value) (w : World) (h : IfPhi R rc U N i v w) : IfSh U N i v :=
  ⟨fun e => by obtain ⟨x, y, h1, _⟩ := h.p1 e; exact ⟨x, y, h1⟩, h.p2, fun e => by obtain ⟨x, y, h1, _⟩ := h.p5 e; exact ⟨x, y, h1⟩, h.p6⟩
def if0 (U N : Array Value) (i : Nat) : Value := if i = 2 then .agg U else if i = 6 then .agg N else seqV 0 0
theorem IfSh_zero {U N : Array Value} (i : Nat) : IfSh U N i (if0 U N i) := ⟨fun e => by subst e; exact ⟨0, 0, rfl⟩, fun e => by subst e; rfl, fun e => by subst e; exact ⟨0, 0, rfl⟩, fun e => by subst e; rfl⟩

theorem notZ_seq {Br Bp : Nat} (m e b1 o1 la ca b2 o2 lb cb : Nat) (S P : Nat → Nat) (w : World) (hr : RingAt w m e b1 o1 la ca b2 o2 lb cb S P) (h1 : Blk w Br 28 #[.int .i64 m, .int .i64 e, .slice (some ⟨b1, o1, none⟩) la ca, .slice (some ⟨b2, o2, none⟩) lb cb])
    (h2 : Blk w Bp 63 #[.func (.func 78) #[] #[]]) :
    SeqStopsK Fence.wide 2 Try.prog 95 #[.pointer (some ⟨Br, 0, none⟩), .pointer (some ⟨Bp, 0, none⟩)] (encF m) (Below w.heap.size) (fun ys => ys = selTo m notZ m) (fun pre => pre <+: selTo m notZ m) m w :=
  where_stops 2 m Br Bp 78 #[] notZ (by decide) hr.hm' (Below w.heap.size) (fun W => Below w.heap.size w W) (enters_of Try.func78 (by kernel_rfl) rfl)
    (fun W hW => (h1.below hW h1.lt).cell 0) (fun W hW => (h2.below hW h2.lt).cell 0) (fun W W' hW hb => hW.trans (hb.mono hW.size)) (fun W W' hW hb => hW.trans hb)
    (fun a _ W _ => notZero_any a W) w (fun W hW => hW)

attribute [local go_sem] eq_set
attribute [local go_sem ↓] Go.wp_at_zero Go.wp_at_succ

set_option maxHeartbeats 4000000 in
theorem isField_any (n o : Int) (A B : Option Addr) (la ca lb cb : Nat) (X Y : List Int) (w : World) (hX : Ints w w.heap.size A la X) (hY : Ints w w.heap.size B lb Y) (hla : la ≤ 9223372036854775807) (hlb : lb ≤ 9223372036854775807) (hca : la ≤ ca) (hcb : lb ≤ cb) :
    Calls Try.prog 45 #[.agg #[.int .i64 n, .int .i64 o, .slice A la ca, .slice B lb cb]] w fun e' w' => e' = .returned (.bool (fieldV n o X Y)) ∧ Below w.heap.size w w' := by
  cases hv : validB n o X Y
  · have hz := Lib.hid (fieldV_no hv)
    have b0 : Below w.heap.size w (w.alloc (.cells #[.int .i64 n, .int .i64 o, .slice A la ca, .slice B lb cb] 28)) := (Below.refl _ _).alloc (Nat.le_refl _) _
    have HX := Lib.hid (hX.next b0)
    have HY := Lib.hid (hY.next b0)
    have B0 := Lib.hid b0
    clear hX hY b0
    go_enter Try.func45, Try.ntmps45
    go_wp2_with (go_at_call 65; refine (valid_any _ _ _ _ _ _ _ _ X Y _ HX.out HY.out hla hlb hca hcb).mono ?_; rintro e1 w1 ⟨rfl, hb1⟩)
    go_ret
    exact ⟨ret_bool hz.out.symm, below_step B0.out hb1⟩
  · obtain ⟨m, e, b1, o1, b2, o2, rfl, rfl, rfl, rfl, hr, ⟨h1, h2, h3, h4⟩, _, _, _, _⟩ := valid_data hv hX hY hca hcb
    have hz := Lib.hid ((fieldV_yes hv).trans (field_same hr.hm hr.hm' (fun k hk => (hr.tp.2 k hk).2) h1 h2 hr.he h4 h3).symm)
    have hm' := hr.hm'
    obtain ⟨W, hW⟩ : ∃ W, w.alloc (.cells #[.int .i64 m, .int .i64 e, .slice (some ⟨b1, o1, none⟩) la ca, .slice (some ⟨b2, o2, none⟩) lb cb] 28) = W := ⟨_, rfl⟩
    have k0 : Blk W w.heap.size 28 #[.int .i64 m, .int .i64 e, .slice (some ⟨b1, o1, none⟩) la ca, .slice (some ⟨b2, o2, none⟩) lb cb] := by
      subst hW; exact Blk.new w _ _
    have b0 : Below w.heap.size w W := by
      subst hW; exact (Below.refl _ _).alloc (Nat.le_refl _) _
    have HX := Lib.hid (hX.next b0)
    have HY := Lib.hid (hY.next b0)
    have K := Lib.hid k0
    have HR0 := Lib.hid hr
    have B0 := Lib.hid b0
    have HW := Lib.hid hW
    have hs0 := k0.lt
    clear hX hY hr b0 hW k0 h1 h2 h3 h4
    go_enter Try.func45, Try.ntmps45
    go_wp2_with (fail)
    rw [HW.out]
    refine (valid_any _ _ _ _ _ _ _ _ X Y W HX.out HY.out hla hlb hca hcb).mono ?_
    rintro e1 w1 ⟨rfl, hb1⟩
    have K := Lib.hid (K.out.next hb1)
    have B1 := Lib.hid (below_step B0.out hb1)
    have hs1 := hb1.size
    clear hb1
    obtain ⟨c0, c1, c2, c3⟩ := blk4 K.out
    go_wp2_with (fail)
    obtain ⟨U, hU⟩ : ∃ U, setA (finN (selTo m (kindB m (tabOf Y) e 0) m)) = U := ⟨_, rfl⟩
    obtain ⟨N, hN⟩ : ∃ N, setA (finN (selTo m notZ m)) = N := ⟨_, rfl⟩
    have heq : ∀ w, (Op.equalIn 10000 69 (.agg U) (.agg N)).run Try.prog w = .ok (fieldV m e X Y) w := fun w => by
      rw [hz.out, ← hU, ← hN]; exact eq_set w _ _
    have HU := Lib.hid hU
    have HN := Lib.hid hN
    have HQ := Lib.hid heq
    clear hU hN heq
    refine wp_region_makersE 8 ifMk (IfPhi (.agg #[.int .i64 m, .int .i64 e, .slice (some ⟨b1, o1, none⟩) la ca, .slice (some ⟨b2, o2, none⟩) lb cb]) #[.int .i64 m, .int .i64 e, .slice (some ⟨b1, o1, none⟩) la ca, .slice (some ⟨b2, o2, none⟩) lb cb] U N) (IfSh U N) (if0 U N) probe (by kernel_rfl) (by kernel_rfl) IfPhi_stable (fun i v x _ => IfSh_of i v x) (fun i _ => IfSh_zero i) ?_
    intro V hV vs hvs
    obtain ⟨x1, y1, e1⟩ := (hvs 1 rfl).p1 rfl
    have e2 := (hvs 2 rfl).p2 rfl
    obtain ⟨x5, y5, e5⟩ := (hvs 5 rfl).p5 rfl
    have e6 := (hvs 6 rfl).p6 rfl
    have cW : ∃ x, extC V x := ⟨V, extC_of (Below.refl _ _)⟩
    have kx : ∀ x, extC V x → Below w.heap.size w x := fun x ⟨u, hu⟩ => by rw [hu]; exact below_step (below_step B1.out hV) (ext_below V u)
    obtain ⟨f0, f1, f2, f3, hsV⟩ := box4_next hV (by omega) c0 c1 c2 c3
    simp only [List.take_succ_cons, List.take_zero, List.drop_succ_cons, List.drop_zero]
    refine wpV_quietE cW 1 0 _ _ (by decide) (by decide) ?_
    simp only [List.take_succ_cons, List.take_zero, List.drop_succ_cons, List.drop_zero]
    repeat (go_big_quiet_step (fail))
    refine wpQuiet_nil ?_
    refine wpV_make_E rfl rfl (fun x hx _ => ?_) ?_
    · unfold makesAtE
      go_simp
      refine ⟨rfl, (ofKind_any 0 m e _ _ la ca lb cb x (by decide)).mono ?_⟩
      rintro _ x' ⟨Br, Bp, rfl, _, _, hB1, hB2, hb⟩
      exact ⟨_, rfl, hb, ⟨fun _ => ⟨Br, Bp, rfl, hB1, hB2⟩, fun e => absurd e (by decide), fun e => absurd e (by decide), fun e => absurd e (by decide)⟩, fun b hbb => (by cases hbb)⟩
    rw [e1]
    go_simp
    refine wpV_make_E rfl rfl (fun x hx hd => ?_) ?_
    · obtain ⟨Br, Bp, q1, hB1, hB2⟩ := (hd ⟨1, .data⟩ (by simp) rfl rfl).p1 rfl
      rw [e1] at q1
      simp only [Value.func.injEq, Array.mk.injEq, List.cons.injEq, Value.pointer.injEq, Option.some.injEq, Addr.mk.injEq, true_and, and_true] at q1
      obtain ⟨rfl, rfl⟩ := q1
      unfold makesAtE
      go_simp
      refine ⟨rfl, (setOf_any m _ x.heap.size m _ _ _ x hm' (enters_of Try.func95 (by kernel_rfl) rfl) (ofKind_seq m e b1 o1 la ca b2 o2 lb cb (tabOf X) (tabOf Y) x (HR0.out.next (kx x hx)) (by decide) hB1 hB2) (Nat.le_refl _)).mono ?_⟩
      rintro _ x' ⟨rfl, hb⟩
      exact ⟨_, rfl, hb, ⟨fun e => absurd e (by decide), fun _ => by rw [HU.out], fun e => absurd e (by decide), fun e => absurd e (by decide)⟩, fun b hbb => (by cases hbb)⟩
    rw [e2]
    go_simp
    refine wpV_quietE cW 2 _ _ _ (by decide) (by decide) ?_
    simp only [List.take_succ_cons, List.take_zero, List.drop_succ_cons, List.drop_zero]
    repeat (go_big_quiet_step (fail))
    refine wpQuiet_nil ?_
    refine wpV_make_E rfl rfl (fun x hx _ => ?_) ?_
    · unfold makesAtE
      go_simp
      refine ⟨rfl, (where_any m e _ _ la ca lb cb 78 _ x).mono ?_⟩
      rintro _ x' ⟨rfl, hB1, hB2, hb⟩
      exact ⟨_, rfl, hb, ⟨fun e => absurd e (by decide), fun e => absurd e (by decide), fun _ => ⟨_, _, rfl, hB1, hB2⟩, fun e => absurd e (by decide)⟩, fun b hbb => (by cases hbb)⟩
    rw [e5]
    go_simp
    refine wpV_make_E rfl rfl (fun x hx hd => ?_) ?_
    · obtain ⟨Br, Bp, q1, hB1, hB2⟩ := (hd ⟨5, .data⟩ (by simp) rfl rfl).p5 rfl
      rw [e5] at q1
      simp only [Value.func.injEq, Array.mk.injEq, List.cons.injEq, Value.pointer.injEq, Option.some.injEq, Addr.mk.injEq, true_and, and_true] at q1
      obtain ⟨rfl, rfl⟩ := q1
      unfold makesAtE
      go_simp
      refine ⟨rfl, (setOf_any m _ x.heap.size m _ _ _ x hm' (enters_of Try.func95 (by kernel_rfl) rfl) (notZ_seq m e b1 o1 la ca b2 o2 lb cb (tabOf X) (tabOf Y) x (HR0.out.next (kx x hx)) hB1 hB2) (Nat.le_refl _)).mono ?_⟩
      rintro _ x' ⟨rfl, hb⟩
      exact ⟨_, rfl, hb, ⟨fun e => absurd e (by decide), fun e => absurd e (by decide), fun e => absurd e (by decide), fun _ => by rw [HN.out]⟩, fun b hbb => (by cases hbb)⟩
    rw [e6]
    go_simp
    have heq := HQ.out
    refine wpV_quietE cW 1 _ _ _ (by decide) (by decide) ?_
    simp only [List.take_succ_cons, List.take_zero, List.drop_succ_cons, List.drop_zero]
    repeat (go_big_quiet_step (fail))
    refine wpQuiet_nil ?_
    refine wpV_nilE ?_
    intro w3 hb3 _ _
    have BB := Lib.hid (below_step B1.out hb3)
    clear hb3
    go_wp2
    go_ret
    exact ⟨rfl, BB.out⟩

end Go.Proofs.Ytocoegekdamlbaa
