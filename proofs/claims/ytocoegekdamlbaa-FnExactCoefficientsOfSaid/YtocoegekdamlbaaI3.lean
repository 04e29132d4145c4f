
/- The elements of a kind, as the program lists them. -/
import Derived.Test.YtocoegekdamlbaaI2
import Derived.Test.YtocoegekdamlbaaM8
namespace Go.Proofs.Ytocoegekdamlbaa
open Go.RowKit Go.Shelf
set_option maxRecDepth 100000

/-- The function that tests for a kind. -/
def testF (k : Nat) : Nat := #[98, 99, 100, 101].getD k 0
theorem testsV_get {R : Value} {k : Nat} (hk : k ≤ 3) : (testsV R)[k]? = some (.func (.func (testF k)) #[R] #[]) := by
  rcases (show k = 0 ∨ k = 1 ∨ k = 2 ∨ k = 3 by omega) with rfl | rfl | rfl | rfl <;> rfl
theorem tests_call {k a : Nat} (m e b1 o1 la ca b2 o2 lb cb : Nat) (S P : Nat → Nat) (w : World) (hr : RingAt w m e b1 o1 la ca b2 o2 lb cb S P) (hk : k ≤ 3) (ha : a < m) :
    Calls Try.prog (testF k) (#[.agg #[.int .i64 m, .int .i64 e, .slice (some ⟨b1, o1, none⟩) la ca, .slice (some ⟨b2, o2, none⟩) lb cb]].push (.int .i64 a)) w fun e' w' => e' = .returned (.bool (kindB m P e k a)) ∧ Below w.heap.size w w' := by
  rcases (show k = 0 ∨ k = 1 ∨ k = 2 ∨ k = 3 by omega) with rfl | rfl | rfl | rfl
  · exact isUnit_any a m e b1 o1 la ca b2 o2 lb cb S P w hr ha
  · exact isZeroDivisor_any a m e b1 o1 la ca b2 o2 lb cb S P w hr ha
  · exact isNilpotent_any a m e b1 o1 la ca b2 o2 lb cb S P w hr ha
  · exact isIdempotent_any a m e b1 o1 la ca b2 o2 lb cb S P w hr ha
theorem tests_enter {k : Nat} (hk : k ≤ 3) : ∀ args w, (callFunc (testF k) args).run Try.prog w = .ok (.enter (testF k) args) w := by
  rcases (show k = 0 ∨ k = 1 ∨ k = 2 ∨ k = 3 by omega) with rfl | rfl | rfl | rfl
  · exact enters_of Try.func98 (by kernel_rfl) rfl
  · exact enters_of Try.func99 (by kernel_rfl) rfl
  · exact enters_of Try.func100 (by kernel_rfl) rfl
  · exact enters_of Try.func101 (by kernel_rfl) rfl

def okMk (i : Nat) : Bool := i == 2 || i == 4 || i == 5 || i == 6
structure OkPhi (R : Value) (rc : Array Value) (k D : Nat) (i : Nat) (v : Value) (w : World) : Prop where
  p2 : i = 2 → ∃ g, v = .slice (some ⟨g, 0, none⟩) 4 4 ∧ Blk w g 63 (testsV R)
  p4 : i = 4 → ∃ g, v = .pointer (some ⟨g, k, none⟩) ∧ Blk w g 63 (testsV R)
  p5 : i = 5 → v = .func (.func (testF k)) #[R] #[]
  p6 : i = 6 → ∃ Br Bp, v = .func (.func 95) #[] #[.pointer (some ⟨Br, 0, none⟩), .pointer (some ⟨Bp, 0, none⟩)] ∧ D ≤ Br ∧ D ≤ Bp ∧ Blk w Br 28 rc ∧ Blk w Bp 63 #[.func (.func (testF k)) #[R] #[]]
structure OkSh (R : Value) (k : Nat) (i : Nat) (v : Value) : Prop where
  p2 : i = 2 → ∃ g, v = .slice (some ⟨g, 0, none⟩) 4 4
  p4 : i = 4 → ∃ g, v = .pointer (some ⟨g, k, none⟩)
  p5 : i = 5 → v = .func (.func (testF k)) #[R] #[]
  p6 : i = 6 → ∃ Br Bp, v = .func (.func 95) #[] #[.pointer (some ⟨Br, 0, none⟩), .pointer (some ⟨Bp, 0, none⟩)]
theorem OkPhi_stable {R : Value} {rc : Array Value} {k D : Nat} (i : Nat) (v : Value) (w w' : World) (h : OkPhi R rc k D i v w) (hb : Below w.heap.size w w') : OkPhi R rc k D i v w' :=
  ⟨fun e => by obtain ⟨g, h1, h2⟩ := h.p2 e; exact ⟨g, h1, h2.next hb⟩, fun e => by obtain ⟨g, h1, h2⟩ := h.p4 e; exact ⟨g, h1, h2.next hb⟩, h.p5, fun e => by obtain ⟨x, y, h1, h2, h3, h4, h5⟩ := h.p6 e; exact ⟨x, y, h1, h2, h3, h4.next hb, h5.next hb⟩⟩
theorem OkSh_of {R : Value} {rc : Array Value} {k D : Nat} (i : Nat) (v : Value) (w : World) (h : OkPhi R rc k D i v w) : OkSh R k i v :=
  ⟨fun e => by obtain ⟨g, h1, _⟩ := h.p2 e; exact ⟨g, h1⟩, fun e => by obtain ⟨g, h1, _⟩ := h.p4 e; exact ⟨g, h1⟩, h.p5, fun e => by obtain ⟨x, y, h1, _⟩ := h.p6 e; exact ⟨x, y, h1⟩⟩
def ok0 (R : Value) (k : Nat) (i : Nat) : Value := if i = 2 then .slice (some ⟨0, 0, none⟩) 4 4 else if i = 4 then .pointer (some ⟨0, k, none⟩) else if i = 5 then .func (.func (testF k)) #[R] #[] else .func (.func 95) #[] #[.pointer (some ⟨0, 0, none⟩), .pointer (some ⟨0, 0, none⟩)]
theorem OkSh_zero {R : Value} {k : Nat} (i : Nat) : OkSh R k i (ok0 R k i) := ⟨fun e => by subst e; exact ⟨0, rfl⟩, fun e => by subst e; exact ⟨0, rfl⟩, fun e => by subst e; rfl, fun e => by subst e; exact ⟨0, 0, rfl⟩⟩

set_option maxHeartbeats 4000000 in
theorem ofKind_any (k : Nat) (n o : Int) (A B : Option Addr) (la ca lb cb : Nat) (w : World) (hk : k ≤ 3) :
    Calls Try.prog 73 #[.agg #[.int .i64 n, .int .i64 o, .slice A la ca, .slice B lb cb], .int .i64 k] w fun e' w' => ∃ Br Bp, e' = .returned (.func (.func 95) #[] #[.pointer (some ⟨Br, 0, none⟩), .pointer (some ⟨Bp, 0, none⟩)]) ∧ w.heap.size ≤ Br ∧ w.heap.size ≤ Bp ∧
      Blk w' Br 28 #[.int .i64 n, .int .i64 o, .slice A la ca, .slice B lb cb] ∧ Blk w' Bp 63 #[.func (.func (testF k)) #[.agg #[.int .i64 n, .int .i64 o, .slice A la ca, .slice B lb cb]] #[]] ∧ Below w.heap.size w w' := by
  obtain ⟨c0, c1, c2, c3, hs⟩ := box4_new w (.int .i64 n) (.int .i64 o) (.slice A la ca) (.slice B lb cb) 28
  have b0 : Below w.heap.size w (w.alloc (.cells #[.int .i64 n, .int .i64 o, .slice A la ca, .slice B lb cb] 28)) := (Below.refl _ _).alloc (Nat.le_refl _) _
  obtain ⟨W, hW⟩ : ∃ W, w.alloc (.cells #[.int .i64 n, .int .i64 o, .slice A la ca, .slice B lb cb] 28) = W := ⟨_, rfl⟩
  rw [hW] at c0 c1 c2 c3 hs b0
  have B0 := Lib.hid b0
  have HW := Lib.hid hW
  have HT := Lib.hid (fun R => testsV_get (R := R) hk)
  have hk1 : (0 : Int) ≤ (k : Int) := by omega
  have hk2 : (k : Int) < 4 := by omega
  have hk3 : k < 4 := by omega
  clear b0 hW
  go_enter Try.func73, Try.ntmps73
  go_wp2_with (fail)
  rw [HW.out]
  refine wp_region_makersE 7 okMk (OkPhi (.agg #[.int .i64 n, .int .i64 o, .slice A la ca, .slice B lb cb]) #[.int .i64 n, .int .i64 o, .slice A la ca, .slice B lb cb] k w.heap.size) (OkSh (.agg #[.int .i64 n, .int .i64 o, .slice A la ca, .slice B lb cb]) k) (ok0 (.agg #[.int .i64 n, .int .i64 o, .slice A la ca, .slice B lb cb]) k) probe (by kernel_rfl) (by kernel_rfl) OkPhi_stable (fun i v x _ => OkSh_of i v x) (fun i _ => OkSh_zero i) ?_
  intro V hV vs hvs
  obtain ⟨tg, e2⟩ := (hvs 2 rfl).p2 rfl
  obtain ⟨tg2, e4⟩ := (hvs 4 rfl).p4 rfl
  have e5 := (hvs 5 rfl).p5 rfl
  obtain ⟨Br, Bp, e6⟩ := (hvs 6 rfl).p6 rfl
  have cW : ∃ x, extC V x := ⟨V, extC_of (Below.refl _ _)⟩
  have kx : ∀ x, extC V x → Below W.heap.size W x := fun x ⟨u, hu⟩ => by rw [hu]; exact hV.trans ((ext_below V u).mono hV.size)
  obtain ⟨f0, f1, f2, f3, hsV⟩ := box4_next hV hs c0 c1 c2 c3
  simp only [List.take_succ_cons, List.take_zero, List.drop_succ_cons, List.drop_zero]
  refine wpV_quietE cW 2 0 _ _ (by decide) (by decide) ?_
  simp only [List.take_succ_cons, List.take_zero, List.drop_succ_cons, List.drop_zero]
  repeat (go_big_quiet_step (fail))
  refine wpQuiet_nil ?_
  refine wpV_make_E rfl rfl (fun x hx _ => ?_) ?_
  · unfold makesAtE
    go_simp
    refine ⟨rfl, (kindTests_any n o A B la ca lb cb x).mono ?_⟩
    rintro _ x' ⟨g, rfl, hg, hblk, hb⟩
    exact ⟨_, rfl, hb, ⟨fun _ => ⟨g, rfl, hblk⟩, fun e => absurd e (by decide), fun e => absurd e (by decide), fun e => absurd e (by decide)⟩, fun b hbb => (by cases hbb)⟩
  rw [e2]
  go_simp
  refine wpV_quietE cW 1 _ _ _ (by decide) (by decide) ?_
  simp only [List.take_succ_cons, List.take_zero, List.drop_succ_cons, List.drop_zero]
  repeat (go_big_quiet_step (fail))
  refine wpQuiet_nil ?_
  refine wpV_make_E rfl rfl (fun x hx hd => ?_) ?_
  · obtain ⟨g1, q1, hblk⟩ := (hd ⟨2, .data⟩ (by simp) rfl rfl).p2 rfl
    rw [e2] at q1
    simp only [Value.slice.injEq, Option.some.injEq, Addr.mk.injEq, and_true] at q1
    subst q1
    unfold makesAtE
    go_simp
    exact ⟨Below.refl _ _, ⟨fun e => absurd e (by decide), fun _ => ⟨tg, rfl, hblk⟩, fun e => absurd e (by decide), fun e => absurd e (by decide)⟩, fun b hbb => (by cases hbb)⟩
  rw [e4]
  go_simp
  refine wpV_make_E rfl rfl (fun x hx hd => ?_) ?_
  · obtain ⟨g1, q1, hblk⟩ := (hd ⟨4, .data⟩ (by simp) rfl rfl).p4 rfl
    rw [e4] at q1
    simp only [Value.pointer.injEq, Option.some.injEq, Addr.mk.injEq, and_true] at q1
    subst q1
    have hck := (hblk.cell k).trans (HT.out _)
    unfold makesAtE
    go_simp
    exact ⟨Below.refl _ _, ⟨fun e => absurd e (by decide), fun e => absurd e (by decide), fun _ => rfl, fun e => absurd e (by decide)⟩, fun b hbb => (by cases hbb)⟩
  rw [e5]
  go_simp
  refine wpV_make_E rfl rfl (fun x hx _ => ?_) ?_
  · unfold makesAtE
    go_simp
    refine ⟨rfl, (where_any n o A B la ca lb cb (testF k) _ x).mono ?_⟩
    rintro _ x' ⟨rfl, hB1, hB2, hb⟩
    have hx1 := (kx x hx).size
    exact ⟨_, rfl, hb, ⟨fun e => absurd e (by decide), fun e => absurd e (by decide), fun e => absurd e (by decide), fun _ => ⟨_, _, rfl, by omega, by omega, hB1, hB2⟩⟩, fun b hbb => (by cases hbb)⟩
  rw [e6]
  go_simp
  refine wpV_nilE ?_
  intro w1 hb1 hf _
  obtain ⟨Br', Bp', q6, d1, d2, d3, d4⟩ := (hf 6 (by decide) rfl).p6 rfl
  rw [e6] at q6
  simp only [Value.func.injEq, Array.mk.injEq, List.cons.injEq, Value.pointer.injEq, Option.some.injEq, Addr.mk.injEq, true_and, and_true] at q6
  obtain ⟨rfl, rfl⟩ := q6
  have D1 := Lib.hid d1
  have D2 := Lib.hid d2
  have D3 := Lib.hid d3
  have D4 := Lib.hid d4
  have BB := Lib.hid (B0.out.trans (hb1.mono (by omega)))
  clear d1 d2 d3 d4 hb1 hf
  go_wp2
  go_ret
  exact ⟨_, _, rfl, D1.out, D2.out, D3.out, D4.out, BB.out⟩

end Go.Proofs.Ytocoegekdamlbaa
