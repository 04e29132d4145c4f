/- Texts of this seat in one: FI FK FL FJ FO FP FM FN FQ FR FS. -/
import Derived.Test.YtlcpbdbdiahmjaaNG
import Derived.Test.YtlcpbdbdiahmjaaMG
import Derived.Test.YtlcpbdbdiahmjaaMC
import Derived.Test.YtlcpbdbdiahmjaaMN
import Derived.Test.YtlcpbdbdiahmjaaMB
import Derived.Laws.CopyOwn
import Derived.Deep.OwnRows

/- The program's polynomialOf. -/
namespace Go.Proofs.Ytlcpbdbdiahmjaa
open Go.RowKit
set_option maxRecDepth 100000

theorem Blk.inCP {V : World} {g : Nat} {t : TypeId} {cs : Array Value} (h : Blk V g t cs) : ∀ x, extC V x → x.heap[g]? = some (.cells cs t (0, 0)) := fun _ ⟨u, hu⟩ => by rw [hu]; exact h.next (ext_below V u)
theorem PolV.set2 {D g : Nat} {w : World} {v : Value} {l : Nat} {F : Nat → Nat} (h : PolV D w v l F) (hg : g < D) (i : Nat) (u : Value) : PolV D (w.setCell ⟨g, i, none⟩ u) v l F := by
  obtain ⟨A, c, e, h1, h2⟩ := h
  refine ⟨A, c, e, ⟨h1.1, fun hn => ?_⟩, h2⟩
  obtain ⟨g', off, e', q1, q2, q3⟩ := h1.2 hn
  refine ⟨g', off, e', q1, by simpa using q2, fun k hk => ?_⟩
  have hne : (⟨g, i, none⟩ : Addr) ≠ ⟨g', off + k, none⟩ := fun e => by injection e; omega
  exact ⟨(World.cell?_setCell_other _ _ _ _ hne).trans (q3 k hk).1, (World.frozen?_setCell _ _ _ _).trans (q3 k hk).2⟩
structure PfPhi (D lf : Nat) (F : Nat → Nat) (i : Nat) (v : Value) (w : World) : Prop where
  p3 : i = 3 → PolV D w v lf F
structure PfSh (lf : Nat) (i : Nat) (v : Value) : Prop where
  p3 : i = 3 → ∃ A c, v = .slice A lf c
theorem PfPhi_stable {D lf : Nat} {F : Nat → Nat} (i : Nat) (v : Value) (w w' : World) (h : PfPhi D lf F i v w) (hb : Below w.heap.size w w') : PfPhi D lf F i v w' := ⟨fun e => (h.p3 e).next hb⟩
theorem PfSh_of {D lf : Nat} {F : Nat → Nat} (i : Nat) (v : Value) (w : World) (h : PfPhi D lf F i v w) : PfSh lf i v := ⟨fun e => by
  obtain ⟨A, c, h1, _⟩ := h.p3 e
  exact ⟨A, c, h1⟩⟩
def pf0 (lf : Nat) (_ : Nat) : Value := .slice none lf 0
theorem PfSh_zero {lf : Nat} (i : Nat) : PfSh lf i (pf0 lf i) := ⟨fun _ => ⟨none, 0, rfl⟩⟩
def pfMk (i : Nat) : Bool := i == 3

section
variable (n o : Int) (A B F : Option Addr) (la ca lb cb lf cf : Nat) (X Y Z : List Int) (w : World)
/-- What lies ahead of the body: the ring's box and the result's. -/
theorem pof_boxes : ∃ W, (w.alloc (.cells #[.int .i64 n, .int .i64 o, .slice A la ca, .slice B lb cb] 25)).alloc (.cells #[.nilIface, .slice none 0 0] 61) = W ∧
    Blk W w.heap.size 25 #[.int .i64 n, .int .i64 o, .slice A la ca, .slice B lb cb] ∧ Blk W (w.heap.size + 1) 61 #[.nilIface, .slice none 0 0] ∧ Below w.heap.size w W := by
  refine ⟨_, rfl, (Blk.new w _ _).alloc _, ?_, ((Below.refl _ _).alloc (Nat.le_refl _) _).alloc (by simp) _⟩
  have := Blk.new (w.alloc (.cells #[.int .i64 n, .int .i64 o, .slice A la ca, .slice B lb cb] 25)) 61 #[.nilIface, .slice none 0 0]
  rw [World.size_alloc] at this
  exact this

set_option maxHeartbeats 2000000 in
theorem pof_no (hX : Ints w w.heap.size A la X) (hY : Ints w w.heap.size B lb Y) (hF : Ints w w.heap.size F lf Z) (hla : la ≤ 9223372036854775807) (hlb : lb ≤ 9223372036854775807) (hlf : lf ≤ 9223372036854775807) (hca : la ≤ ca) (hcb : lb ≤ cb) (hp : polB n o X Y Z = false) :
    Calls Try.prog 90 #[.agg #[.int .i64 n, .int .i64 o, .slice A la ca, .slice B lb cb], .slice F lf cf] w fun e' w' => e' = .returned (.tuple #[.agg #[.nilIface, .slice none 0 0], .bool false]) ∧ Below w.heap.size w w' := by
  obtain ⟨W, hW, k0, k1, b0⟩ := pof_boxes n o A B la ca lb cb w
  have HX := Lib.hid (hX.next b0)
  have HY := Lib.hid (hY.next b0)
  have HF := Lib.hid (hF.next b0)
  have B0 := Lib.hid b0
  have HW := Lib.hid hW
  have HP := Lib.hid hp
  have K1 := Lib.hid k1
  have lR := k1.lt
  obtain ⟨c0, c1, c2, c3⟩ := blk4 k0
  clear hX hY hF b0 hW k0 k1 hp
  go_enter Try.func90, Try.ntmps90
  go_wp2_with (fail)
  rw [HW.out]
  refine (pol_any n o A B F la ca lb cb lf cf X Y Z W HX.out HY.out HF.out hla hlb hlf hca hcb).mono ?_
  rintro e1 w1 ⟨rfl, hb1⟩
  rw [HP.out]
  have K2 := Lib.hid (K1.out.next hb1)
  have B1 := Lib.hid (below_step B0.out hb1)
  clear hb1
  have d0 := K2.out.cell 0
  have d1 := K2.out.cell 1
  have f0 := K2.out.frozen 0
  have f1 := K2.out.frozen 1
  simp at d0 d1
  go_wp2_with (fail)
  refine bodyPost_ret (v := .tuple #[.agg #[.nilIface, .slice none 0 0], .bool false]) ?_ rfl ⟨rfl, (B1.out.setCell (by simp) _).setCell (by simp) _⟩
  exact results_cell_flag rfl _ _ (w.heap.size + 1) 61 _ _ _ rfl rfl ((K2.out.set_ 0 .nilIface).set_ 1 (.slice none 0 0)) Try.underlying61 rfl (by kernel_rfl)

set_option maxHeartbeats 2000000 in
theorem pof_yes (hX : Ints w w.heap.size A la X) (hY : Ints w w.heap.size B lb Y) (hF : Ints w w.heap.size F lf Z) (hla : la ≤ 9223372036854775807) (hlb : lb ≤ 9223372036854775807) (hlf : lf ≤ 9223372036854775807) (hca : la ≤ ca) (hcb : lb ≤ cb) (hp : polB n o X Y Z = true) :
    Calls Try.prog 90 #[.agg #[.int .i64 n, .int .i64 o, .slice A la ca, .slice B lb cb], .slice F lf cf] w fun e' w' => ∃ v, e' = .returned (.tuple #[.agg #[.iface 25 (.agg #[.int .i64 n, .int .i64 o, .slice A la ca, .slice B lb cb]), v], .bool true]) ∧ PolV w.heap.size w' v lf (tabOf Z) ∧ Below w.heap.size w w' := by
  obtain ⟨W, hW, k0, k1, b0⟩ := pof_boxes n o A B la ca lb cb w
  have hZ := hF.1
  obtain ⟨_, hl8, _, hlst, _⟩ := pol_data hp
  have HX := Lib.hid (hX.next b0)
  have HY := Lib.hid (hY.next b0)
  have HF := Lib.hid (hF.next b0)
  have B0 := Lib.hid b0
  have HW := Lib.hid hW
  have HP := Lib.hid hp
  have HL := Lib.hid hlst
  have K0 := Lib.hid k0
  have K1 := Lib.hid k1
  have lR := k1.lt
  have hlf8 : lf ≤ 8 := by omega
  have HZ := Lib.hid hZ
  obtain ⟨c0, c1, c2, c3⟩ := blk4 k0
  clear hX hY hF b0 hW k0 k1 hp hlst hZ hl8
  go_enter Try.func90, Try.ntmps90
  go_wp2_with (fail)
  rw [HW.out]
  refine (pol_any n o A B F la ca lb cb lf cf X Y Z W HX.out HY.out HF.out hla hlb hlf hca hcb).mono ?_
  rintro e1 w1 ⟨rfl, hb1⟩
  rw [HP.out]
  have H0 := Lib.hid (K0.out.next hb1)
  have H1 := Lib.hid (K1.out.next hb1)
  have B1 := Lib.hid (below_step B0.out hb1)
  have F1 := Lib.hid (HF.out.next hb1)
  have l1 := H1.out.lt
  clear hb1
  go_wp2_with (fail)
  refine wp_region_makersE 5 pfMk (PfPhi w1.heap.size lf (tabOf Z)) (PfSh lf) (pf0 lf) probe (by kernel_rfl) (by kernel_rfl) PfPhi_stable (fun i v x _ => PfSh_of i v x) (fun i _ => PfSh_zero i) ?_
  intro V hV vs hvs
  obtain ⟨A3, q3, e3⟩ := (hvs 3 rfl).p3 rfl
  have cW : ∃ x, extC V x := ⟨V, extC_of (Below.refl _ _)⟩
  have KX := Lib.hid (show ∀ x, extC V x → Below w1.heap.size w1 x from fun x ⟨u, hu⟩ => by rw [hu]; exact below_step hV (ext_below V u))
  have GQ := (H0.out.next hV).inCP
  clear hV
  simp only [List.take_succ_cons, List.take_zero, List.drop_succ_cons, List.drop_zero]
  refine wpV_quietE cW 3 0 _ _ (by decide) (by decide) ?_
  simp only [List.take_succ_cons, List.take_zero, List.drop_succ_cons, List.drop_zero]
  repeat (first
    | (refine wpQuiet_load_rowP rfl 25 (.tmp 2) rfl w.heap.size rfl _ #[.int .i64 n, .int .i64 o, .slice A la ca, .slice B lb cb] _ GQ Try.underlying25 rfl (by kernel_rfl) ?_; go_simp)
    | (go_big_quiet_step (fail)))
  refine wpQuiet_nil ?_
  refine wpV_make_E rfl rfl (fun x hx _ => ?_) ?_
  · unfold makesAtE
    go_simp
    refine ⟨rfl, (cloneP_any F lf cf w1.heap.size Z x (F1.out.below (KX.out x hx) (Nat.le_refl _)) (KX.out x hx).size (by omega)).mono ?_⟩
    rintro _ x' ⟨v, rfl, ho, hb⟩
    refine ⟨_, rfl, hb, ⟨fun _ => ?_⟩, fun b hbb => ?_⟩
    · have h1 : x'.ownsRow x.heap.size 3 1 v lf ((lstF (tabOf Z) lf).map (.int .i64)) := by
        have e1 : lstF (tabOf Z) lf = Z := by
          have := HL.out
          rwa [HZ.out] at this
        rw [e1]; exact ho
      exact (PolV.of_row h1 (by omega)).down (KX.out x hx).size
    · cases hbb
  rw [e3]
  go_simp
  refine wpV_quietE cW 1 _ _ _ (by decide) (by decide) ?_
  simp only [List.take_succ_cons, List.take_zero, List.drop_succ_cons, List.drop_zero]
  repeat (go_big_quiet_step (fail))
  refine wpQuiet_nil ?_
  refine wpV_nilE ?_
  intro w7 hb7 hf _
  have h3 := (hf 3 (by decide) rfl).p3 rfl
  rw [e3] at h3
  have H3 := Lib.hid h3
  have B7 := Lib.hid (below_step B1.out hb7)
  have K7 := Lib.hid (H1.out.next hb7)
  clear hb7 hf h3 hvs
  have d0 := K7.out.cell 0
  have d1 := K7.out.cell 1
  have f0 := K7.out.frozen 0
  have f1 := K7.out.frozen 1
  simp at d0 d1
  go_wp2_with (fail)
  have hs7 := B0.out.size
  refine bodyPost_ret (v := .tuple #[.agg #[.iface 25 (.agg #[.int .i64 n, .int .i64 o, .slice A la ca, .slice B lb cb]), .slice A3 lf q3], .bool true]) ?_ rfl ⟨_, rfl, ((H3.out.set2 l1 _ _).set2 l1 _ _).down (Nat.le_of_lt (Nat.lt_trans (Nat.lt_succ_self _) l1)), (B7.out.setCell (by simp) _).setCell (by simp) _⟩
  exact results_cell_flag rfl _ _ (w.heap.size + 1) 61 _ _ _ rfl rfl ((K7.out.set_ 0 _).set_ 1 _) Try.underlying61 rfl (by kernel_rfl)
end

end Go.Proofs.Ytlcpbdbdiahmjaa



/- The program's polynomials: 'with'; slices.Backward. -/
namespace Go.Proofs.Ytlcpbdbdiahmjaa
open Go.RowKit Go.Shelf
set_option maxRecDepth 100000
attribute [local go_sem] Oper.semAt_some

theorem PolV.less {D : Nat} {w : World} {l k : Nat} {A : Option Addr} {c : Nat} {F : Nat → Nat} (h : PolV D w (.slice A l c) l F) (hk : k ≤ l) : PolV D w (.slice A k c) k F := by
  obtain ⟨A', c', e, h1, h2, h3, h4⟩ := h
  simp only [Value.slice.injEq, true_and] at e
  obtain ⟨rfl, rfl⟩ := e
  exact ⟨A, c, rfl, h1.less hk, by omega, by omega, h4⟩
theorem PolV.setP {D b off c l g : Nat} {w : World} {F : Nat → Nat} (h : PolV D w (.slice (some ⟨b, off, none⟩) l c) l F) (hg : b ≠ g) (i : Nat) (u : Value) : PolV D (w.setCell ⟨g, i, none⟩ u) (.slice (some ⟨b, off, none⟩) l c) l F := by
  obtain ⟨A', c', e, h1, h2⟩ := h
  simp only [Value.slice.injEq, true_and] at e
  obtain ⟨rfl, rfl⟩ := e
  refine ⟨_, _, rfl, ⟨h1.1, fun hn => ?_⟩, h2⟩
  obtain ⟨g', off', e', q1, q2, q3⟩ := h1.2 hn
  refine ⟨g', off', e', q1, by simpa using q2, fun k hk => ?_⟩
  simp only [Option.some.injEq, Addr.mk.injEq, and_true] at e'
  have hne : (⟨g, i, none⟩ : Addr) ≠ ⟨g', off' + k, none⟩ := fun e => by injection e; omega
  exact ⟨(World.cell?_setCell_other _ _ _ _ hne).trans (q3 k hk).1, (World.frozen?_setCell _ _ _ _).trans (q3 k hk).2⟩
theorem PolV.cellP {D b off c l i : Nat} {w : World} {F : Nat → Nat} (h : PolV D w (.slice (some ⟨b, off, none⟩) l c) l F) (hi : i < l) : w.cell? ⟨b, off + i, none⟩ = some (.int .i64 ((F i : Nat) : Int)) ∧ D ≤ b ∧ b < w.heap.size := by
  obtain ⟨A', c', e, h1, _⟩ := h
  simp only [Value.slice.injEq, true_and] at e
  obtain ⟨rfl, rfl⟩ := e
  obtain ⟨b', off', e', q1, q2, q3⟩ := h1.2 (by omega)
  simp only [Option.some.injEq, Addr.mk.injEq, and_true] at e'
  obtain ⟨rfl, rfl⟩ := e'
  have := (q3 i hi).1
  rw [lstF_get hi] at this
  exact ⟨this, q1, q2⟩

set_option maxHeartbeats 2000000 in
theorem with_any (D l : Nat) (T : TypeId) (rv pc v : Value) (F : Nat → Nat) (w : World) (h : PolV D w v l F) :
    Calls Try.prog 92 #[.agg #[.iface T rv, pc], v] w fun e w' => ∃ v', e = .returned (.agg #[.iface T rv, v']) ∧ PolV D w' v' (tlN F l) F ∧ Below w.heap.size w w' := by
  have h' := h
  obtain ⟨A, c, rfl, ho, hc, hl, hA⟩ := h'
  have HV := Lib.hid h
  have HI := Lib.hid ho.ints
  have hD : 0 < l → D ≤ w.heap.size := fun h0 => by obtain ⟨_, _, _, q1, q2, _⟩ := ho.2 h0; omega
  obtain ⟨W, hW⟩ : ∃ W, (w.alloc (.cells #[.iface T rv, pc] 61)).alloc (.cells #[.nilIface, .slice none 0 0] 61) = W := ⟨_, rfl⟩
  have k0 : Blk W w.heap.size 61 #[.iface T rv, pc] := by subst hW; exact (Blk.new w _ _).alloc _
  have k1 : Blk W (w.heap.size + 1) 61 #[.nilIface, .slice none 0 0] := by
    subst hW
    have := Blk.new (w.alloc (.cells #[.iface T rv, pc] 61)) 61 #[.nilIface, .slice none 0 0]
    rw [World.size_alloc] at this
    exact this
  have b0 : Below w.heap.size w W := by subst hW; exact ((Below.refl _ _).alloc (Nat.le_refl _) _).alloc (by simp) _
  have HW := Lib.hid hW
  have B0 := Lib.hid b0
  have K0 := Lib.hid k0
  have K1 := Lib.hid k1
  clear h ho hW k0 k1 b0
  have tl := tl_le (F := F) l
  go_enter Try.func92, Try.ntmps92
  go_wp2_with (fail)
  rw [HW.out]
  go_loopg [6] l (fun g s wr => ∃ k : Nat, k ≤ l ∧ k ≤ g ∧ s = .int .i64 k ∧ tlN F k = tlN F l ∧ Below W.heap.size W wr)
  case atStart => exact ⟨l, Nat.le_refl _, Nat.le_refl _, rfl, rfl, Below.refl _ _⟩
  case round =>
    obtain ⟨k, hk, hg, rfl, htl, hb⟩ := hrel
    have HT := Lib.hid htl
    have B1 := Lib.hid (below_step B0.out hb)
    have H0 := Lib.hid (K0.out.next hb)
    have H1 := Lib.hid (K1.out.next hb)
    have d0 := H0.out.cell 0
    have e0 := H1.out.cell 0
    have e1 := H1.out.cell 1
    have f0 := H1.out.frozen 0
    have f1 := H1.out.frozen 1
    simp at d0 e0 e1
    have HI1 := Lib.hid (HI.out.next B1.out)
    have V1 := Lib.hid (HV.out.next B1.out)
    have hb' := hb
    have BH := Lib.hid hb'
    clear hb hb' htl d0 e0 e1 f0 f1
    cases k with
    | zero =>
      rcases hA with ⟨rfl, rfl⟩ | ⟨b, off, rfl⟩
      · skip
        go_wp2_with (fail)
        refine wp_region_makers 6 (fun _ => false) (fun _ _ _ => True) (fun _ _ => True) (fun _ => undef) probe (by kernel_rfl) (by kernel_rfl) (fun _ _ _ _ _ _ => trivial) (fun _ _ _ _ _ => trivial) (fun _ _ => trivial) ?_
        intro V hV vs _
        have cV : ∃ x, extC V x := ⟨V, extC_of (Below.refl _ _)⟩
        have g0 := (H0.out.next hV).cell 0
        simp at g0
        clear hV
        simp only [List.take_succ_cons, List.take_zero, List.drop_succ_cons, List.drop_zero]
        refine wpV_quiet cV 6 0 _ _ (by decide) (by decide) ?_
        simp only [List.take_succ_cons, List.take_zero, List.drop_succ_cons, List.drop_zero]
        repeat (go_big_quiet_step (fail))
        refine wpQuiet_nil ?_
        refine wpV_nil ?_
        intro w4 hb4 _ _
        have H4 := Lib.hid (H1.out.next hb4)
        have B4 := Lib.hid (below_step B1.out hb4)
        have B4' := Lib.hid hb4
        have e0 := H4.out.cell 0
        have e1 := H4.out.cell 1
        have f0 := H4.out.frozen 0
        have f1 := H4.out.frozen 1
        simp at e0 e1
        clear hb4 g0
        go_wp2_with (fail)
        refine bodyPost_ret (v := .agg #[.iface T rv, .slice none 0 0]) ?_ rfl ⟨_, rfl, by rw [← HT.out]; exact PolV.nil, (B4.out.setCell (by simp) _).setCell (by simp) _⟩
        exact results_cell_row Try.results92 _ _ (w.heap.size + 1) 61 _ (0, 0) _ rfl ((H4.out.set_ 0 _).set_ 1 _) Try.underlying61 rfl (by kernel_rfl)
      · skip
        go_wp2_with (fail)
        refine wp_region_makers 6 (fun _ => false) (fun _ _ _ => True) (fun _ _ => True) (fun _ => undef) probe (by kernel_rfl) (by kernel_rfl) (fun _ _ _ _ _ _ => trivial) (fun _ _ _ _ _ => trivial) (fun _ _ => trivial) ?_
        intro V hV vs _
        have cV : ∃ x, extC V x := ⟨V, extC_of (Below.refl _ _)⟩
        have g0 := (H0.out.next hV).cell 0
        simp at g0
        clear hV
        simp only [List.take_succ_cons, List.take_zero, List.drop_succ_cons, List.drop_zero]
        refine wpV_quiet cV 6 0 _ _ (by decide) (by decide) ?_
        simp only [List.take_succ_cons, List.take_zero, List.drop_succ_cons, List.drop_zero]
        repeat (go_big_quiet_step (fail))
        refine wpQuiet_nil ?_
        refine wpV_nil ?_
        intro w4 hb4 _ _
        have H4 := Lib.hid (H1.out.next hb4)
        have B4 := Lib.hid (below_step B1.out hb4)
        have B4' := Lib.hid hb4
        have e0 := H4.out.cell 0
        have e1 := H4.out.cell 1
        have f0 := H4.out.frozen 0
        have f1 := H4.out.frozen 1
        simp at e0 e1
        clear hb4 g0
        go_wp2_with (fail)
        refine bodyPost_ret (v := .agg #[.iface T rv, .slice (some ⟨b, off, none⟩) 0 c]) ?_ rfl ⟨_, rfl, by rw [← HT.out]; exact (show PolV D _ _ 0 F from ⟨_, c, rfl, ⟨rfl, fun h => absurd h (by omega)⟩, Nat.zero_le _, by omega, .inr ⟨b, off, rfl⟩⟩), (B4.out.setCell (by simp) _).setCell (by simp) _⟩
        exact results_cell_row Try.results92 _ _ (w.heap.size + 1) 61 _ (0, 0) _ rfl ((H4.out.set_ 0 _).set_ 1 _) Try.underlying61 rfl (by kernel_rfl)
    | succ k =>
      obtain ⟨b, off, rfl, hbb⟩ := lstF_addr HI.out (by omega)
      have hc0 := lstF_cell HI1.out (i := k) (by omega)
      by_cases h0 : F k = 0
      · rw [h0] at hc0
        have t0 := Lib.hid ((tl_zero h0).symm.trans HT.out)
        go_wp2
        go_roundg k
        case measure => omega
        case rel => exact ⟨k, by omega, by omega, by go_num, t0.out, BH.out⟩
      · have t1 : (((F k : Nat) : Int) == 0) = false := by rw [beq_eq_false_iff_ne]; omega
        have t2 : ¬ ((F k : Nat) : Int) = 0 := by omega
        have t3 := Lib.hid ((tl_top h0).symm.trans HT.out)
        have P1 := Lib.hid (V1.out.less (k := k + 1) (by omega))
        have hDD := hD (by omega)
        go_wp2_with (fail)
        refine wp_region_makers 6 (fun _ => false) (fun _ _ _ => True) (fun _ _ => True) (fun _ => undef) probe (by kernel_rfl) (by kernel_rfl) (fun _ _ _ _ _ _ => trivial) (fun _ _ _ _ _ => trivial) (fun _ _ => trivial) ?_
        intro V hV vs _
        have cV : ∃ x, extC V x := ⟨V, extC_of (Below.refl _ _)⟩
        have g0 := (H0.out.next hV).cell 0
        simp at g0
        clear hV
        simp only [List.take_succ_cons, List.take_zero, List.drop_succ_cons, List.drop_zero]
        refine wpV_quiet cV 6 0 _ _ (by decide) (by decide) ?_
        simp only [List.take_succ_cons, List.take_zero, List.drop_succ_cons, List.drop_zero]
        repeat (go_big_quiet_step (fail))
        refine wpQuiet_nil ?_
        refine wpV_nil ?_
        intro w4 hb4 _ _
        have H4 := Lib.hid (H1.out.next hb4)
        have B4 := Lib.hid (below_step B1.out hb4)
        have B4' := Lib.hid hb4
        have e0 := H4.out.cell 0
        have e1 := H4.out.cell 1
        have f0 := H4.out.frozen 0
        have f1 := H4.out.frozen 1
        simp at e0 e1
        clear hb4 g0
        go_wp2_with (fail)
        refine bodyPost_ret (v := .agg #[.iface T rv, .slice (some ⟨b, off, none⟩) (k + 1) c]) ?_ rfl ⟨_, rfl, by rw [← t3.out]; exact ((P1.out.next B4'.out).setP (by omega) _ _).setP (by omega) _ _, (B4.out.setCell (by simp) _).setCell (by simp) _⟩
        exact results_cell_row Try.results92 _ _ (w.heap.size + 1) 61 _ (0, 0) _ rfl ((H4.out.set_ 0 _).set_ 1 _) Try.underlying61 rfl (by kernel_rfl)

end Go.Proofs.Ytlcpbdbdiahmjaa



/- slices.Backward as an iterator; the value of a polynomial ('at'). -/
namespace Go.Proofs.Ytlcpbdbdiahmjaa
open Go.RowKit Go.Shelf
set_option maxRecDepth 100000
attribute [local go_sem] Oper.semAt_some

section
variable {l d : Nat}
end

end Go.Proofs.Ytlcpbdbdiahmjaa



/- The value of a polynomial ('at' of the program); EvalPoly of both sides. -/
namespace Go.Proofs.Ytlcpbdbdiahmjaa
open Go.RowKit Go.Shelf
set_option maxRecDepth 100000
attribute [local go_sem] Oper.semAt_some

theorem rg_product (rv : Value) (w : World) : (method 244 25 rv "loop.example/finiterings/impl.product").run Try.prog w = .ok (78, rv) w := by kernel_rfl
theorem rg_sum (rv : Value) (w : World) : (method 244 25 rv "loop.example/finiterings/impl.sum").run Try.prog w = .ok (160, rv) w := by kernel_rfl
theorem rg_negative (rv : Value) (w : World) : (method 244 25 rv "loop.example/finiterings/impl.negative").run Try.prog w = .ok (159, rv) w := by kernel_rfl
theorem rg_certain (rv : Value) (w : World) : (method 244 25 rv "loop.example/finiterings/impl.certainInverse").run Try.prog w = .ok (158, rv) w := by kernel_rfl
theorem rg_productA (rv : Value) (w : World) : (nilAhead 244 25 rv "loop.example/finiterings/impl.product").run Try.prog w = .ok (some false) w := by kernel_rfl
theorem rg_sumA (rv : Value) (w : World) : (nilAhead 244 25 rv "loop.example/finiterings/impl.sum").run Try.prog w = .ok (some false) w := by kernel_rfl
theorem rg_negativeA (rv : Value) (w : World) : (nilAhead 244 25 rv "loop.example/finiterings/impl.negative").run Try.prog w = .ok (some false) w := by kernel_rfl
theorem rg_certainA (rv : Value) (w : World) : (nilAhead 244 25 rv "loop.example/finiterings/impl.certainInverse").run Try.prog w = .ok (some false) w := by kernel_rfl

end Go.Proofs.Ytlcpbdbdiahmjaa



/- EvalPoly of both sides. -/
namespace Go.Proofs.Ytlcpbdbdiahmjaa
open Go.RowKit
set_option maxRecDepth 100000

section
variable {n o a : Int} {X Y Z : List Int}
theorem evaV_yes {m e a : Nat} (h : polB m e X Y Z = true) (ha : inB m a = true) : evaV m e X Y Z a = (atN m (tabOf X) (tabOf Y) (tabOf Z) Z.length a : Nat) := ifV_yes ⟨h, ha⟩
end

end Go.Proofs.Ytlcpbdbdiahmjaa



/- The program's plus. -/
namespace Go.Proofs.Ytlcpbdbdiahmjaa
open Go.RowKit
set_option maxRecDepth 100000

theorem own_blk_full {w : World} {D g L : Nat} {cs : List Value} {T : TypeId} (h : w.heap[g]? = some (.cells cs.toArray T (0, 0))) (hD : D ≤ g) (hl : cs.length = L) (hL : L ≤ 1000) : w.ownsRow D T 1 (.slice (some ⟨g, 0, none⟩) L L) L cs := by
  subst hl
  exact ⟨by simp, .inr ⟨g, cs.length, cs.toArray, rfl, hD, h, Nat.le_refl _, by unfold maxLen; omega, by simp, by simp⟩⟩
theorem own_full_heap {w : World} {D g n : Nat} {xs : List Value} {e : TypeId} (h : w.ownsRow D e 1 (.slice (some ⟨g, 0, none⟩) n n) n xs) : w.heap[g]? = some (.cells xs.toArray e (0, 0)) := by
  rcases h.2 with ⟨h0, _⟩ | ⟨g', cap, cur, h1, h2, h3, h4, h5, h6, h7⟩
  · cases h0
  · simp only [Value.slice.injEq, Option.some.injEq, Addr.mk.injEq, and_true, true_and] at h1
    obtain ⟨rfl, rfl⟩ := h1
    rw [h3]
    have hl := h.1
    have : cur = xs.toArray := by
      rw [← h7, List.take_of_length_le (by simp; omega)]
    rw [this]
theorem pos_adds {w : World} {C D l : Nat} {E : Option Addr} {F : Nat → Nat} (h : Ints w C E l (lstF F l)) (h0 : 0 < ((lstF F l).map (Value.int .i64)).length) : some (⟨D, 0, none⟩ : Addr) = some ⟨D, 0, none⟩ ∧ ∃ ad, E = some ad ∧ ∀ (j : Nat) (v : Value), ((lstF F l).map (Value.int .i64))[j]? = some v → w.cell? (ad.add j) = some v := by
  rw [lstV_len] at h0
  obtain ⟨b, off, rfl, _⟩ := lstF_addr h h0
  exact ⟨rfl, _, rfl, ints_adds h⟩
theorem splice_ex {lf L : Nat} {F : Nat → Nat} (h : lf ≤ L) : splice (madeCells (Value.int .i64 0).cells (L * 1)).toList 0 ((lstF F lf).map (Value.int .i64)) = (lstF (exF F lf) L).map (Value.int .i64) := by
  rw [lstV_made]
  unfold splice
  rw [List.take_zero, List.nil_append, Nat.zero_add, lstV_len]
  apply List.ext_getElem?
  intro j
  rcases Nat.lt_or_ge j L with hj | hj
  · rw [lstV_get hj]
    rcases Nat.lt_or_ge j lf with h1 | h1
    · rw [List.getElem?_append_left (by rw [lstV_len]; exact h1), lstV_get h1, show exF F lf j = F j from if_pos h1]
    · rw [List.getElem?_append_right (by rw [lstV_len]; exact h1), lstV_len, List.getElem?_drop, show lf + (j - lf) = j by omega, lstV_get hj, show exF F lf j = 0 from if_neg (by omega)]
  · rw [List.getElem?_eq_none (by simp [lstF_len]; omega), List.getElem?_eq_none (by rw [lstV_len]; exact hj)]

section
variable (p0 p1 q0 q1 : Value) (w : World)
/-- Two polynomials' boxes and the result's. -/
theorem two_boxes : ∃ W, ((w.alloc (.cells #[p0, p1] 61)).alloc (.cells #[q0, q1] 61)).alloc (.cells #[.nilIface, .slice none 0 0] 61) = W ∧
    Blk W w.heap.size 61 #[p0, p1] ∧ Blk W (w.heap.size + 1) 61 #[q0, q1] ∧ Blk W (w.heap.size + 1 + 1) 61 #[.nilIface, .slice none 0 0] ∧ Below w.heap.size w W ∧ W.heap.size = w.heap.size + 1 + 1 + 1 := by
  refine ⟨_, rfl, ((Blk.new w _ _).alloc _).alloc _, ?_, ?_, (((Below.refl _ _).alloc (Nat.le_refl _) _).alloc (by simp) _).alloc (by simp; omega) _, by simp⟩
  · have := (Blk.new (w.alloc (.cells #[p0, p1] 61)) 61 #[q0, q1]).alloc (.cells #[.nilIface, .slice none 0 0] 61)
    rw [World.size_alloc] at this
    exact this
  · have := Blk.new ((w.alloc (.cells #[p0, p1] 61)).alloc (.cells #[q0, q1] 61)) 61 #[.nilIface, .slice none 0 0]
    rw [World.size_alloc, World.size_alloc] at this
    exact this
end

set_option maxHeartbeats 4000000 in
theorem plus_any (F G : Nat → Nat) (E K : Option Addr) (lf lg cf cg : Nat) (T2 : TypeId) (rv2 : Value) (m e b1 o1 la ca b2 o2 lb cb : Nat) (S P : Nat → Nat) (w : World) (hr : RingAt w m e b1 o1 la ca b2 o2 lb cb S P) (hF : Ints w w.heap.size E lf (lstF F lf)) (hG : Ints w w.heap.size K lg (lstF G lg)) (hlf : lf ≤ 100) (hlg : lg ≤ 100) (hf : ∀ i, i < lf → F i < m) (hg : ∀ i, i < lg → G i < m) :
    Calls Try.prog 57 #[.agg #[.iface 25 (.agg #[.int .i64 m, .int .i64 e, .slice (some ⟨b1, o1, none⟩) la ca, .slice (some ⟨b2, o2, none⟩) lb cb]), .slice E lf cf], .agg #[.iface T2 rv2, .slice K lg cg]] w fun e' w' => ∃ v, e' = .returned (.agg #[.iface 25 (.agg #[.int .i64 m, .int .i64 e, .slice (some ⟨b1, o1, none⟩) la ca, .slice (some ⟨b2, o2, none⟩) lb cb]), v]) ∧ PolV w.heap.size w' v (tlN (addF m S F lf G lg) (max lf lg)) (addF m S F lf G lg) ∧ Below w.heap.size w w' := by
  obtain ⟨i0, hi, hz0, hz1, hz2⟩ := info_parts int_info
  have HG' := Lib.hid hg
  have EX := Lib.hid (ex_lt (F := F) (l := lf) hr.hm hf)
  have q2 := rg_sum (.agg #[.int .i64 m, .int .i64 e, .slice (some ⟨b1, o1, none⟩) la ca, .slice (some ⟨b2, o2, none⟩) lb cb])
  have q4 := rg_sumA (.agg #[.int .i64 m, .int .i64 e, .slice (some ⟨b1, o1, none⟩) la ca, .slice (some ⟨b2, o2, none⟩) lb cb])
  obtain ⟨W, hW, k0, k1, k2, b0, hsW⟩ := two_boxes (.iface 25 (.agg #[.int .i64 m, .int .i64 e, .slice (some ⟨b1, o1, none⟩) la ca, .slice (some ⟨b2, o2, none⟩) lb cb])) (.slice E lf cf) (.iface T2 rv2) (.slice K lg cg) w
  obtain ⟨D, hD⟩ : ∃ D, W.heap.size = D := ⟨_, rfl⟩
  have hDs : D = w.heap.size + 1 + 1 + 1 := by omega
  have R0 := Lib.hid (hr.next b0)
  have F0 := Lib.hid (hF.next b0)
  have G0 := Lib.hid (hG.next b0)
  have HW := Lib.hid hW
  have B0 := Lib.hid b0
  have K0 := Lib.hid k0
  have K1 := Lib.hid k1
  have K2 := Lib.hid k2
  have HDS := Lib.hid hDs
  have T0 := Lib.hid (show ∀ x, Below D W x → Blk x w.heap.size 61 #[.iface 25 (.agg #[.int .i64 m, .int .i64 e, .slice (some ⟨b1, o1, none⟩) la ca, .slice (some ⟨b2, o2, none⟩) lb cb]), .slice E lf cf] from fun x hx => k0.below hx (by omega))
  have T1 := Lib.hid (show ∀ x, Below D W x → Blk x (w.heap.size + 1) 61 #[.iface T2 rv2, .slice K lg cg] from fun x hx => k1.below hx (by omega))
  have T3 := Lib.hid (show ∀ x, Below D W x → Blk x (w.heap.size + 1 + 1) 61 #[.nilIface, .slice none 0 0] from fun x hx => k2.below hx (by omega))
  have TR := Lib.hid (show ∀ x, Below D W x → RingAt x m e b1 o1 la ca b2 o2 lb cb S P from fun x hx => R0.out.next (hD ▸ hx))
  have TG := Lib.hid (show ∀ x, Below D W x → Ints x D K lg (lstF G lg) from fun x hx => by rw [← hD]; exact G0.out.below (hD ▸ hx) (Nat.le_refl _))
  have x0 := k0.cell 0
  have x1 := k0.cell 1
  have y0 := k1.cell 0
  have y1 := k1.cell 1
  simp at x0 x1 y0 y1
  clear hr hF hG b0 hW hf hg k0 k1 k2 hsW hDs
  by_cases hc : lf < lg
  · have hci : (lf : Int) < (lg : Int) := by omega
    have hL1 : lf ≤ lg := by omega
    have hL2 : lg ≤ lg := by omega
    have hL3 : lg ≤ 100 := by omega
    have HM := Lib.hid (show max lf lg = lg by omega)
    have HN3 := Lib.hid (show ((lstF F lf).map (Value.int .i64)).length = Nat.min lf lg by rw [lstV_len]; exact (Nat.min_eq_left hL1).symm)
    have HF3 := Lib.hid (show 0 + ((lstF F lf).map (Value.int .i64)).length ≤ (madeCells (Value.int .i64 0).cells (lg * 1)).toList.length by rw [lstV_len, lstV_made, lstV_len]; omega)
    go_enter Try.func57, Try.ntmps57
    go_wp2_with (first
      | (at_make; (rw [HW.out]; refine wpList_make_full W rfl _ _ 23 rfl D 3 i0 (.int .i64 0) 1 Try.underlying23 hi hz0 hz1 .i64 .i64 _ _ lg rfl rfl rfl rfl (by rw [hz2]; omega) (by unfold maxLen; omega) (by omega) ?_; intro w1 hown1 hg1; rw [hD] at hown1; rw [hD]; have B3 := Lib.hid (show Below D W w1 from (Below.refl _ _).grown hg1 (by omega) (by simp)); have K3 := Lib.hid (own_full_heap hown1); have x0 := (T0.out _ B3.out).cell 0; have x1 := (T0.out _ B3.out).cell 1; have y0 := (T1.out _ B3.out).cell 0; have y1 := (T1.out _ B3.out).cell 1; simp at x0 x1 y0 y1; have F3 := F0.out.below (hD ▸ B3.out) (Nat.le_refl _); have HP3 := Lib.hid (pos_adds (D := D) F3); clear hown1 hg1 F3))
      | (with_reducible refine wpList_copy_splice rfl (.tmp 16) (.tmp 18) 23 23 rfl 3 Try.underlying23 (by kernel_rfl) (some ⟨D, 0, none⟩) E lg lg lf cf rfl rfl D 0 (madeCells (Value.int .i64 0).cells (lg * 1)).toList 3 K3.out ((lstF F lf).map (Value.int .i64)) HN3.out HP3.out HF3.out map_one D W B3.out (Nat.le_refl _) ?_; intro w2 hh hb2; have O2 := Lib.hid (own_blk_full (D := D) (L := lg) hh.out (Nat.le_refl _) (by rw [length_splice _ _ _ HF3.out, lstV_made, lstV_len]) (by omega)); have B2 := Lib.hid hb2; clear x0 x1 y0 y1; have x0 := (T0.out _ hb2).cell 0; have x1 := (T0.out _ hb2).cell 1; have y0 := (T1.out _ hb2).cell 0; have y1 := (T1.out _ hb2).cell 1; simp at x0 x1 y0 y1; clear hh hb2))
    have HO := Lib.hid (show w2.ownsRow D 3 1 (.slice (some ⟨D, 0, none⟩) lg lg) lg ((lstF (addF m S F lf G 0) lg).map (.int .i64)) by rw [add_zero, ← splice_ex hL1]; exact O2.out)
    clear O2 K3 HN3 HP3 HF3
    clear x0 x1 y0 y1
    go_loopg [23] lg (fun g i wr => ∃ k : Nat, k ≤ lg ∧ lg ≤ k + g ∧ i = .int .i64 k ∧ wr.ownsRow D 3 1 (.slice (some ⟨D, 0, none⟩) lg lg) lg ((lstF (addF m S F lf G k) lg).map (.int .i64)) ∧ Below D W wr)
    case atStart => exact ⟨0, Nat.zero_le _, by omega, rfl, HO.out, B2.out⟩
    case round =>
      obtain ⟨k, hk, hgk, rfl, hown, hb⟩ := hrel
      have OK := Lib.hid hown
      have BK := Lib.hid hb
      have hszk := hb.size
      clear hown hb
      by_cases hkl : k < lg
      · have hki : (k : Int) < (lg : Int) := by omega
        have hkL : k < lg := by omega
        have hkLi : (k : Int) < (lg : Int) := by omega
        have GK := TG.out wr BK.out
        obtain ⟨b, off, rfl, hbb⟩ := lstF_addr GK (by omega)
        have gc := lstF_cell GK hkl
        have hgm := HG'.out k hkl
        have hxm := EX.out k
        obtain ⟨y, hy⟩ : ∃ y, G k = y := ⟨_, rfl⟩
        obtain ⟨x, hx⟩ : ∃ x, exF F lf k = x := ⟨_, rfl⟩
        rw [hy] at gc hgm
        rw [hx] at hxm
        have HN := Lib.hid (show putF (addF m S F lf G k) k (S (x * m + y)) = addF m S F lf G (k + 1) by rw [← hx, ← hy]; exact add_put)
        have hce := OK.out.cellAt k (by omega)
        rw [lstV_get hkL, add_at, hx] at hce
        clear hy hx GK
        go_wp2_with (fail)
        refine wp_region_makers 13 (fun _ => false) (fun _ _ _ => True) (fun _ _ => True) (fun _ => undef) probe (by kernel_rfl) (by kernel_rfl) (fun _ _ _ _ _ _ => trivial) (fun _ _ _ _ _ => trivial) (fun _ _ => trivial) ?_
        intro V hV vs _
        have cV : ∃ x, extC V x := ⟨V, extC_of (Below.refl _ _)⟩
        have BV := Lib.hid (BK.out.trans (hV.mono (by omega)))
        have RV := Lib.hid (show ∀ u, RingAt (ext V u) m e b1 o1 la ca b2 o2 lb cb S P from fun u => TR.out _ (BV.out.trans ((ext_below V u).mono (by have := BV.out.size; omega))))
        have p0 := (T0.out _ BV.out).cell 0
        simp at p0
        have OV := Lib.hid (own_nextK OK.out hV)
        have hcv := OV.out.cellAt k (by omega)
        rw [← OK.out.cellAt k (by omega), hce] at hcv
        have HCE := Lib.hid hce
        clear hV gc hce
        simp only [List.take_succ_cons, List.take_zero, List.drop_succ_cons, List.drop_zero]
        refine wpV_quiet cV 13 0 _ _ (by decide) (by decide) ?_
        simp only [List.take_succ_cons, List.take_zero, List.drop_succ_cons, List.drop_zero]
        repeat (go_big_quiet_step (first
          | (go_at_call 160; with_reducible refine calls_ext (sum_any x y m e b1 o1 la ca b2 o2 lb cb S P _ (RV.out _) hxm hgm))))
        refine wpQuiet_nil ?_
        refine wpV_nil ?_
        intro w4 hb4 _ _
        have B4 := Lib.hid (BK.out.trans (hb4.mono (by omega)))
        have O4 := Lib.hid (own_nextK OK.out hb4)
        have hc4 := O4.out.cellAt k (by omega)
        rw [← OK.out.cellAt k (by omega), HCE.out] at hc4
        have hf4 := O4.out.frozenAt k
        clear hcv hb4 p0
        go_wp2
        go_roundg (lg - (k + 1))
        case measure => omega
        case rel => exact ⟨k + 1, by omega, by omega, by go_num, by rw [← HN.out, ← lstV_set hkL]; exact (O4.out.stored k _).1, B4.out.setCell (by show D ≤ D; exact Nat.le_refl _) _⟩
      · have hki : ¬ (k : Int) < (lg : Int) := by omega
        have hkk : k = lg := by omega
        have OL := Lib.hid (show wr.ownsRow D 3 1 (.slice (some ⟨D, 0, none⟩) lg lg) lg ((lstF (addF m S F lf G lg) lg).map (.int .i64)) by rw [show addF m S F lf G lg = addF m S F lf G k by rw [hkk]]; exact OK.out)
        clear OK hkk
        have PV := Lib.hid (PolV.of_row OL.out (by omega))
        have p0 := (T0.out _ BK.out).cell 0
        have p1 := (T0.out _ BK.out).cell 1
        simp at p0 p1
        go_wp2_with (go_at_call 92; ((with_reducible refine (with_any D lg _ _ _ _ (addF m S F lf G lg) _ PV.out).mono ?_); rintro e5 w5 ⟨v5, rfl, hp5, hb5⟩; obtain ⟨E5, c5, rfl, hr5⟩ := hp5; have B5 := Lib.hid (BK.out.trans (hb5.mono (by omega))); have P5 := Lib.hid (show PolV D w5 (.slice E5 _ c5) _ _ from ⟨E5, c5, rfl, hr5⟩); clear hb5 hr5; have r3 := T3.out _ B5.out; have z0 := r3.cell 0; have z1 := r3.cell 1; have g0 := r3.frozen 0; have g1 := r3.frozen 1; have R3 := Lib.hid r3; simp at z0 z1; clear r3))
        refine bodyPost_ret (v := .agg #[.iface 25 (.agg #[.int .i64 m, .int .i64 e, .slice (some ⟨b1, o1, none⟩) la ca, .slice (some ⟨b2, o2, none⟩) lb cb]), .slice E5 (tlN (addF m S F lf G lg) lg) c5]) ?_ rfl ⟨_, rfl, by rw [HM.out]; exact ((P5.out.set2 (by have := HDS.out; omega) _ _).set2 (by have := HDS.out; omega) _ _).down (by have := HDS.out; omega), ((B0.out.trans (B5.out.mono (by have := HDS.out; omega))).setCell (by simp; omega) _).setCell (by simp; omega) _⟩
        exact results_cell_row Try.results57 _ _ (w.heap.size + 1 + 1) 61 _ (0, 0) _ rfl ((R3.out.set_ 0 _).set_ 1 _) Try.underlying61 rfl (by kernel_rfl)
  · have hci : ¬ (lf : Int) < (lg : Int) := by omega
    have hL1 : lf ≤ lf := by omega
    have hL2 : lg ≤ lf := by omega
    have hL3 : lf ≤ 100 := by omega
    have HM := Lib.hid (show max lf lg = lf by omega)
    have HN3 := Lib.hid (show ((lstF F lf).map (Value.int .i64)).length = Nat.min lf lf by rw [lstV_len]; exact (Nat.min_eq_left hL1).symm)
    have HF3 := Lib.hid (show 0 + ((lstF F lf).map (Value.int .i64)).length ≤ (madeCells (Value.int .i64 0).cells (lf * 1)).toList.length by rw [lstV_len, lstV_made, lstV_len]; omega)
    go_enter Try.func57, Try.ntmps57
    go_wp2_with (first
      | (at_make; (rw [HW.out]; refine wpList_make_full W rfl _ _ 23 rfl D 3 i0 (.int .i64 0) 1 Try.underlying23 hi hz0 hz1 .i64 .i64 _ _ lf rfl rfl rfl rfl (by rw [hz2]; omega) (by unfold maxLen; omega) (by omega) ?_; intro w1 hown1 hg1; rw [hD] at hown1; rw [hD]; have B3 := Lib.hid (show Below D W w1 from (Below.refl _ _).grown hg1 (by omega) (by simp)); have K3 := Lib.hid (own_full_heap hown1); have x0 := (T0.out _ B3.out).cell 0; have x1 := (T0.out _ B3.out).cell 1; have y0 := (T1.out _ B3.out).cell 0; have y1 := (T1.out _ B3.out).cell 1; simp at x0 x1 y0 y1; have F3 := F0.out.below (hD ▸ B3.out) (Nat.le_refl _); have HP3 := Lib.hid (pos_adds (D := D) F3); clear hown1 hg1 F3))
      | (with_reducible refine wpList_copy_splice rfl (.tmp 16) (.tmp 18) 23 23 rfl 3 Try.underlying23 (by kernel_rfl) (some ⟨D, 0, none⟩) E lf lf lf cf rfl rfl D 0 (madeCells (Value.int .i64 0).cells (lf * 1)).toList 3 K3.out ((lstF F lf).map (Value.int .i64)) HN3.out HP3.out HF3.out map_one D W B3.out (Nat.le_refl _) ?_; intro w2 hh hb2; have O2 := Lib.hid (own_blk_full (D := D) (L := lf) hh.out (Nat.le_refl _) (by rw [length_splice _ _ _ HF3.out, lstV_made, lstV_len]) (by omega)); have B2 := Lib.hid hb2; clear x0 x1 y0 y1; have x0 := (T0.out _ hb2).cell 0; have x1 := (T0.out _ hb2).cell 1; have y0 := (T1.out _ hb2).cell 0; have y1 := (T1.out _ hb2).cell 1; simp at x0 x1 y0 y1; clear hh hb2))
    have HO := Lib.hid (show w2.ownsRow D 3 1 (.slice (some ⟨D, 0, none⟩) lf lf) lf ((lstF (addF m S F lf G 0) lf).map (.int .i64)) by rw [add_zero, ← splice_ex hL1]; exact O2.out)
    clear O2 K3 HN3 HP3 HF3
    clear x0 x1 y0 y1
    go_loopg [23] lg (fun g i wr => ∃ k : Nat, k ≤ lg ∧ lg ≤ k + g ∧ i = .int .i64 k ∧ wr.ownsRow D 3 1 (.slice (some ⟨D, 0, none⟩) lf lf) lf ((lstF (addF m S F lf G k) lf).map (.int .i64)) ∧ Below D W wr)
    case atStart => exact ⟨0, Nat.zero_le _, by omega, rfl, HO.out, B2.out⟩
    case round =>
      obtain ⟨k, hk, hgk, rfl, hown, hb⟩ := hrel
      have OK := Lib.hid hown
      have BK := Lib.hid hb
      have hszk := hb.size
      clear hown hb
      by_cases hkl : k < lg
      · have hki : (k : Int) < (lg : Int) := by omega
        have hkL : k < lf := by omega
        have hkLi : (k : Int) < (lf : Int) := by omega
        have GK := TG.out wr BK.out
        obtain ⟨b, off, rfl, hbb⟩ := lstF_addr GK (by omega)
        have gc := lstF_cell GK hkl
        have hgm := HG'.out k hkl
        have hxm := EX.out k
        obtain ⟨y, hy⟩ : ∃ y, G k = y := ⟨_, rfl⟩
        obtain ⟨x, hx⟩ : ∃ x, exF F lf k = x := ⟨_, rfl⟩
        rw [hy] at gc hgm
        rw [hx] at hxm
        have HN := Lib.hid (show putF (addF m S F lf G k) k (S (x * m + y)) = addF m S F lf G (k + 1) by rw [← hx, ← hy]; exact add_put)
        have hce := OK.out.cellAt k (by omega)
        rw [lstV_get hkL, add_at, hx] at hce
        clear hy hx GK
        go_wp2_with (fail)
        refine wp_region_makers 13 (fun _ => false) (fun _ _ _ => True) (fun _ _ => True) (fun _ => undef) probe (by kernel_rfl) (by kernel_rfl) (fun _ _ _ _ _ _ => trivial) (fun _ _ _ _ _ => trivial) (fun _ _ => trivial) ?_
        intro V hV vs _
        have cV : ∃ x, extC V x := ⟨V, extC_of (Below.refl _ _)⟩
        have BV := Lib.hid (BK.out.trans (hV.mono (by omega)))
        have RV := Lib.hid (show ∀ u, RingAt (ext V u) m e b1 o1 la ca b2 o2 lb cb S P from fun u => TR.out _ (BV.out.trans ((ext_below V u).mono (by have := BV.out.size; omega))))
        have p0 := (T0.out _ BV.out).cell 0
        simp at p0
        have OV := Lib.hid (own_nextK OK.out hV)
        have hcv := OV.out.cellAt k (by omega)
        rw [← OK.out.cellAt k (by omega), hce] at hcv
        have HCE := Lib.hid hce
        clear hV gc hce
        simp only [List.take_succ_cons, List.take_zero, List.drop_succ_cons, List.drop_zero]
        refine wpV_quiet cV 13 0 _ _ (by decide) (by decide) ?_
        simp only [List.take_succ_cons, List.take_zero, List.drop_succ_cons, List.drop_zero]
        repeat (go_big_quiet_step (first
          | (go_at_call 160; with_reducible refine calls_ext (sum_any x y m e b1 o1 la ca b2 o2 lb cb S P _ (RV.out _) hxm hgm))))
        refine wpQuiet_nil ?_
        refine wpV_nil ?_
        intro w4 hb4 _ _
        have B4 := Lib.hid (BK.out.trans (hb4.mono (by omega)))
        have O4 := Lib.hid (own_nextK OK.out hb4)
        have hc4 := O4.out.cellAt k (by omega)
        rw [← OK.out.cellAt k (by omega), HCE.out] at hc4
        have hf4 := O4.out.frozenAt k
        clear hcv hb4 p0
        go_wp2
        go_roundg (lg - (k + 1))
        case measure => omega
        case rel => exact ⟨k + 1, by omega, by omega, by go_num, by rw [← HN.out, ← lstV_set hkL]; exact (O4.out.stored k _).1, B4.out.setCell (by show D ≤ D; exact Nat.le_refl _) _⟩
      · have hki : ¬ (k : Int) < (lg : Int) := by omega
        have hkk : k = lg := by omega
        have OL := Lib.hid (show wr.ownsRow D 3 1 (.slice (some ⟨D, 0, none⟩) lf lf) lf ((lstF (addF m S F lf G lg) lf).map (.int .i64)) by rw [show addF m S F lf G lg = addF m S F lf G k by rw [hkk]]; exact OK.out)
        clear OK hkk
        have PV := Lib.hid (PolV.of_row OL.out (by omega))
        have p0 := (T0.out _ BK.out).cell 0
        have p1 := (T0.out _ BK.out).cell 1
        simp at p0 p1
        go_wp2_with (go_at_call 92; ((with_reducible refine (with_any D lf _ _ _ _ (addF m S F lf G lg) _ PV.out).mono ?_); rintro e5 w5 ⟨v5, rfl, hp5, hb5⟩; obtain ⟨E5, c5, rfl, hr5⟩ := hp5; have B5 := Lib.hid (BK.out.trans (hb5.mono (by omega))); have P5 := Lib.hid (show PolV D w5 (.slice E5 _ c5) _ _ from ⟨E5, c5, rfl, hr5⟩); clear hb5 hr5; have r3 := T3.out _ B5.out; have z0 := r3.cell 0; have z1 := r3.cell 1; have g0 := r3.frozen 0; have g1 := r3.frozen 1; have R3 := Lib.hid r3; simp at z0 z1; clear r3))
        refine bodyPost_ret (v := .agg #[.iface 25 (.agg #[.int .i64 m, .int .i64 e, .slice (some ⟨b1, o1, none⟩) la ca, .slice (some ⟨b2, o2, none⟩) lb cb]), .slice E5 (tlN (addF m S F lf G lg) lf) c5]) ?_ rfl ⟨_, rfl, by rw [HM.out]; exact ((P5.out.set2 (by have := HDS.out; omega) _ _).set2 (by have := HDS.out; omega) _ _).down (by have := HDS.out; omega), ((B0.out.trans (B5.out.mono (by have := HDS.out; omega))).setCell (by simp; omega) _).setCell (by simp; omega) _⟩
        exact results_cell_row Try.results57 _ _ (w.heap.size + 1 + 1) 61 _ (0, 0) _ rfl ((R3.out.set_ 0 _).set_ 1 _) Try.underlying61 rfl (by kernel_rfl)

end Go.Proofs.Ytlcpbdbdiahmjaa



/- The program's polynomialsOf. -/
namespace Go.Proofs.Ytlcpbdbdiahmjaa
open Go.RowKit
set_option maxRecDepth 100000

theorem results_cell_cell_flag {P : Program} {fn : Func} {p q u : Tmp} {ty : TypeId} (h : fn.results = #[.cell p ty, .cell q ty, .tmp u]) (tmps : Array Value) (w : World) (g k : Nat) (t : TypeId) (cs ds : Array Value) (d : TypeDesc) (b : Value)
    (hp : tmps.getD p undef = .pointer (some ⟨g, 0, none⟩)) (hq : tmps.getD q undef = .pointer (some ⟨k, 0, none⟩)) (hb : tmps.getD u undef = b) (hg : Blk w g t cs) (hk : Blk w k t ds)
    (hu : P.underlying ty = some d) (hd : (match d with | .struct _ | .array _ _ => true | _ => false) = true) (hi : (P.info? ty).map (·.size) = some cs.size) (hi2 : (P.info? ty).map (·.size) = some ds.size) :
    (results fn tmps).run P w = .ok (.tuple #[.agg cs, .agg ds, b]) w := by
  have e : (results fn tmps).run P w = ((asAddr (tmps.getD p undef)).run P w).andThen fun a w₁ => ((loadVar ty a).run P w₁).andThen fun v w₂ => ((asAddr (tmps.getD q undef)).run P w₂).andThen fun a' w₃ => ((loadVar ty a').run P w₃).andThen fun v' w₄ => .ok (.tuple #[v, v', tmps.getD u undef]) w₄ := by
    simp only [results, h]
    simp [Sem.run_bind, Result.andThen]
  rw [e, hp, hq, hb]
  simp [asAddr, run_loadVar_row w g t ty cs (0, 0) d hg hu hd hi, run_loadVar_row w k t ty ds (0, 0) d hk hu hd hi2]

/-- What a list of coefficients becomes. -/
def PolP (D : Nat) (w : World) (b : Bool) (rv p : Value) (l : Nat) (F : Nat → Nat) : Prop := (b = false ∧ p = .agg #[.nilIface, .slice none 0 0]) ∨ (b = true ∧ ∃ E c, p = .agg #[.iface 25 rv, .slice E l c] ∧ PolV D w (.slice E l c) l F)
theorem PolP.next {D : Nat} {w w' : World} {b : Bool} {rv p : Value} {l : Nat} {F : Nat → Nat} (h : PolP D w b rv p l F) (hb : Below w.heap.size w w') : PolP D w' b rv p l F := by
  rcases h with h | ⟨h1, E, c, h2, h3⟩
  · exact .inl h
  · exact .inr ⟨h1, E, c, h2, h3.next hb⟩
theorem PolP.down {D D' : Nat} {w : World} {b : Bool} {rv p : Value} {l : Nat} {F : Nat → Nat} (h : PolP D w b rv p l F) (hD : D' ≤ D) : PolP D' w b rv p l F := by
  rcases h with h | ⟨h1, E, c, h2, h3⟩
  · exact .inl h
  · exact .inr ⟨h1, E, c, h2, h3.down hD⟩
theorem PolP.set2 {D g : Nat} {w : World} {b : Bool} {rv p : Value} {l : Nat} {F : Nat → Nat} (h : PolP D w b rv p l F) (hg : g < D) (i : Nat) (u : Value) : PolP D (w.setCell ⟨g, i, none⟩ u) b rv p l F := by
  rcases h with h | ⟨h1, E, c, h2, h3⟩
  · exact .inl h
  · exact .inr ⟨h1, E, c, h2, h3.set2 hg i u⟩
theorem PolP.cells {D : Nat} {w : World} {b : Bool} {rv p : Value} {l : Nat} {F : Nat → Nat} (h : PolP D w b rv p l F) : ∃ ov A k c, p = .agg #[ov, .slice A k c] ∧ (ov = .nilIface ∨ ov = .iface 25 rv) := by
  rcases h with ⟨_, rfl⟩ | ⟨_, E, c, rfl, _⟩
  · exact ⟨_, _, _, _, rfl, .inl rfl⟩
  · exact ⟨_, _, _, _, rfl, .inr rfl⟩

theorem pof_any (n o : Int) (A B F : Option Addr) (la ca lb cb lf cf : Nat) (X Y Z : List Int) (w : World) (hX : Ints w w.heap.size A la X) (hY : Ints w w.heap.size B lb Y) (hF : Ints w w.heap.size F lf Z) (hla : la ≤ 9223372036854775807) (hlb : lb ≤ 9223372036854775807) (hlf : lf ≤ 9223372036854775807) (hca : la ≤ ca) (hcb : lb ≤ cb) :
    Calls Try.prog 90 #[.agg #[.int .i64 n, .int .i64 o, .slice A la ca, .slice B lb cb], .slice F lf cf] w fun e' w' => ∃ p, e' = .returned (.tuple #[p, .bool (polB n o X Y Z)]) ∧ PolP w.heap.size w' (polB n o X Y Z) (.agg #[.int .i64 n, .int .i64 o, .slice A la ca, .slice B lb cb]) p lf (tabOf Z) ∧ Below w.heap.size w w' := by
  cases hp : polB n o X Y Z
  · refine (pof_no n o A B F la ca lb cb lf cf X Y Z w hX hY hF hla hlb hlf hca hcb hp).mono ?_
    rintro e' w' ⟨rfl, hb⟩
    exact ⟨_, rfl, .inl ⟨rfl, rfl⟩, hb⟩
  · refine (pof_yes n o A B F la ca lb cb lf cf X Y Z w hX hY hF hla hlb hlf hca hcb hp).mono ?_
    rintro e' w' ⟨v, rfl, hv, hb⟩
    have hv' := hv
    obtain ⟨E, c, rfl, _⟩ := hv'
    exact ⟨_, rfl, .inr ⟨rfl, E, c, rfl, hv⟩, hb⟩

section
variable (p0 p1 q0 q1 : Value) (w : World) (R0 : Array Value)
theorem pofs_boxes : ∃ W, ((w.alloc (.cells R0 25)).alloc (.cells #[.nilIface, .slice none 0 0] 61)).alloc (.cells #[.nilIface, .slice none 0 0] 61) = W ∧
    Blk W w.heap.size 25 R0 ∧ Blk W (w.heap.size + 1) 61 #[.nilIface, .slice none 0 0] ∧ Blk W (w.heap.size + 1 + 1) 61 #[.nilIface, .slice none 0 0] ∧ Below w.heap.size w W ∧ W.heap.size = w.heap.size + 1 + 1 + 1 := by
  refine ⟨_, rfl, ((Blk.new w _ _).alloc _).alloc _, ?_, ?_, (((Below.refl _ _).alloc (Nat.le_refl _) _).alloc (by simp) _).alloc (by simp; omega) _, by simp⟩
  · have := (Blk.new (w.alloc (.cells R0 25)) 61 #[.nilIface, .slice none 0 0]).alloc (.cells #[.nilIface, .slice none 0 0] 61)
    rw [World.size_alloc] at this
    exact this
  · have := Blk.new ((w.alloc (.cells R0 25)).alloc (.cells #[.nilIface, .slice none 0 0] 61)) 61 #[.nilIface, .slice none 0 0]
    rw [World.size_alloc, World.size_alloc] at this
    exact this
end

set_option maxHeartbeats 8000000 in
theorem pofs_any (n o : Int) (A B F K : Option Addr) (la ca lb cb lf cf lg cg : Nat) (X Y Z V : List Int) (w : World) (hX : Ints w w.heap.size A la X) (hY : Ints w w.heap.size B lb Y) (hF : Ints w w.heap.size F lf Z) (hK : Ints w w.heap.size K lg V) (hla : la ≤ 9223372036854775807) (hlb : lb ≤ 9223372036854775807) (hlf : lf ≤ 9223372036854775807) (hlg : lg ≤ 9223372036854775807) (hca : la ≤ ca) (hcb : lb ≤ cb) :
    Calls Try.prog 47 #[.agg #[.int .i64 n, .int .i64 o, .slice A la ca, .slice B lb cb], .slice F lf cf, .slice K lg cg] w fun e' w' => ∃ p q, e' = .returned (.tuple #[p, q, .bool (twoB n o X Y Z V)]) ∧ PolP w.heap.size w' (polB n o X Y Z) (.agg #[.int .i64 n, .int .i64 o, .slice A la ca, .slice B lb cb]) p lf (tabOf Z) ∧ PolP w.heap.size w' (polB n o X Y V) (.agg #[.int .i64 n, .int .i64 o, .slice A la ca, .slice B lb cb]) q lg (tabOf V) ∧ Below w.heap.size w w' := by
  obtain ⟨W, hW, k0, k1, k2, b0, hsW⟩ := pofs_boxes w #[.int .i64 n, .int .i64 o, .slice A la ca, .slice B lb cb]
  have HX := Lib.hid (hX.next b0)
  have HY := Lib.hid (hY.next b0)
  have HF := Lib.hid (hF.next b0)
  have HK := Lib.hid (hK.next b0)
  have HW := Lib.hid hW
  have B0 := Lib.hid b0
  have K0 := Lib.hid k0
  have K1 := Lib.hid k1
  have K2 := Lib.hid k2
  have HS := Lib.hid hsW
  obtain ⟨c0, c1, c2, c3⟩ := blk4 k0
  have TB := Lib.hid (show twoB n o X Y Z V = (polB n o X Y Z && polB n o X Y V) from rfl)
  rw [TB.out]
  obtain ⟨bz, hbz⟩ : ∃ b, polB n o X Y Z = b := ⟨_, rfl⟩
  obtain ⟨bv, hbv⟩ : ∃ b, polB n o X Y V = b := ⟨_, rfl⟩
  have HBZ := Lib.hid hbz
  have HBV := Lib.hid hbv
  rw [hbz, hbv]
  clear hX hY hF hK hW b0 k0 k1 k2 hsW hbz hbv
  go_enter Try.func47, Try.ntmps47
  go_wp2_with (fail)
  rw [HW.out]
  refine (pof_any n o A B F la ca lb cb lf cf X Y Z W HX.out HY.out HF.out hla hlb hlf hca hcb).mono ?_
  rintro e1 w1 ⟨p1, rfl, hp1, hb1⟩
  rw [HBZ.out]
  rw [HBZ.out] at hp1
  have P1 := Lib.hid hp1
  have B1 := Lib.hid (below_step B0.out hb1)
  have H0 := Lib.hid (K0.out.next hb1)
  have H1 := Lib.hid (K1.out.next hb1)
  have H2 := Lib.hid (K2.out.next hb1)
  have S1 := Lib.hid (show W.heap.size ≤ w1.heap.size from hb1.size)
  have HB1 := Lib.hid hb1
  have hs1 := H2.out.lt
  have hs2 := H0.out.lt
  clear c0 c1 c2 c3
  obtain ⟨c0, c1, c2, c3⟩ := blk4 H0.out
  cases bz
  · rcases hp1 with ⟨_, rfl⟩ | ⟨h, _⟩
    rotate_left
    · cases h
    clear hb1
    go_wp2_with (fail)
    obtain ⟨w2, hw2⟩ : ∃ x, w1.alloc (.cells #[.nilIface, .slice none 0 0] 61) = x := ⟨_, rfl⟩
    have J2 := Blk.new w1 61 #[.nilIface, .slice none 0 0]
    have b2 : Below w1.heap.size w1 w2 := by subst hw2; exact (Below.refl _ _).alloc (Nat.le_refl _) _
    rw [hw2] at J2
    rw [hw2]
    have HW2 := Lib.hid (show Below W.heap.size W w2 from below_step HB1.out b2)
    have H0b := Lib.hid (H0.out.next b2)
    have H1b := Lib.hid (H1.out.next b2)
    have H2b := Lib.hid (H2.out.next b2)
    have B2 := Lib.hid (below_step B1.out b2)
    have P2 := Lib.hid (P1.out.next b2)
    have z2 := b2.size
    have HJ2 := Lib.hid J2
    clear hw2 b2 J2 c0 c1 c2 c3
    refine (pof_any n o A B K la ca lb cb lg cg X Y V w2 (HX.out.next HW2.out) (HY.out.next HW2.out) (HK.out.next HW2.out) hla hlb hlg hca hcb).mono ?_
    rintro e3 w3 ⟨p2, rfl, hp2, hb3⟩
    rw [HBV.out]
    rw [HBV.out] at hp2
    have J3 := Lib.hid (HJ2.out.next hb3)
    have H0c := Lib.hid (H0b.out.next hb3)
    have H1c := Lib.hid (H1b.out.next hb3)
    have H2c := Lib.hid (H2b.out.next hb3)
    have B3 := Lib.hid (below_step B2.out hb3)
    have P3 := Lib.hid (P2.out.next hb3)
    have z3 := hb3.size
    have hs3 := H2c.out.lt
    cases bv
    · have P4 := Lib.hid hp2
      rcases hp2 with ⟨_, rfl⟩ | ⟨h, _⟩
      rotate_left
      · cases h
      clear hb3
      go_wp2_with (fail)
      obtain ⟨w4, hw4⟩ : ∃ x, w3.alloc (.cells #[.nilIface, .slice none 0 0] 61) = x := ⟨_, rfl⟩
      have J4 := Blk.new w3 61 #[.nilIface, .slice none 0 0]
      have b4 : Below w3.heap.size w3 w4 := by subst hw4; exact (Below.refl _ _).alloc (Nat.le_refl _) _
      rw [hw4] at J4
      rw [hw4]
      have G1 := Lib.hid (H1c.out.next b4)
      have G2 := Lib.hid (H2c.out.next b4)
      have GA := Lib.hid (J3.out.next b4)
      have GB := Lib.hid J4
      have Q1 := Lib.hid (P3.out.next b4)
      have Q2 := Lib.hid (P4.out.next b4)
      have B4 := Lib.hid (below_step B3.out b4)
      clear J4 b4 hw4
      have d0 := G1.out.cell 0
      have d1 := G1.out.cell 1
      have d2 := G2.out.cell 0
      have d3 := G2.out.cell 1
      have e0 := GA.out.cell 0
      have e1 := GA.out.cell 1
      have e2 := GB.out.cell 0
      have e3 := GB.out.cell 1
      have f0 := G1.out.frozen 0
      have f1 := G1.out.frozen 1
      have f2 := G2.out.frozen 0
      have f3 := G2.out.frozen 1
      simp at d0 d1 d2 d3 e0 e1 e2 e3
      have hz1 := HS.out
      have hz2 := S1.out
      obtain ⟨Q, hQ⟩ : ∃ Q, (((w4.setCell ⟨w.heap.size + 1, 0, none⟩ (.nilIface)).setCell ⟨w.heap.size + 1, 1, none⟩ (.slice none 0 0)).setCell ⟨w.heap.size + 1 + 1, 0, none⟩ (.nilIface)).setCell ⟨w.heap.size + 1 + 1, 1, none⟩ (.slice none 0 0) = Q := ⟨_, rfl⟩
      have K9 := Lib.hid (show Blk Q (w.heap.size + 1) 61 #[.nilIface, .slice none 0 0] by subst hQ; exact (((G1.out.set_ 0 _).set_ 1 _).far (by simp) _).far (by simp) _)
      have L9 := Lib.hid (show Blk Q (w.heap.size + 1 + 1) 61 #[.nilIface, .slice none 0 0] by subst hQ; exact (((G2.out.far (by simp) _).far (by simp) _).set_ 0 _).set_ 1 _)
      have B9 := Lib.hid (show Below w.heap.size w Q by subst hQ; exact (((B4.out.setCell (by simp) _).setCell (by simp) _).setCell (by simp; omega) _).setCell (by simp; omega) _)
      have U1 := Lib.hid (show PolP w.heap.size Q _ _ _ _ _ by subst hQ; exact ((((Q1.out.set2 (by omega) _ _).set2 (by omega) _ _).set2 (by omega) _ _).set2 (by omega) _ _).down (by omega))
      have U2 := Lib.hid (show PolP w.heap.size Q _ _ _ _ _ by subst hQ; exact ((((Q2.out.set2 (by omega) _ _).set2 (by omega) _ _).set2 (by omega) _ _).set2 (by omega) _ _).down (by omega))
      go_region
      try rw [hQ]
      clear hQ d0 d1 d2 d3 e0 e1 e2 e3 f0 f1 f2 f3
      go_wp2_with (fail)
      refine bodyPost_ret (v := .tuple #[.agg #[.nilIface, .slice none 0 0], .agg #[.nilIface, .slice none 0 0], .bool false]) ?_ rfl ⟨_, _, rfl, U1.out.next (Below.refl _ _).drew, U2.out.next (Below.refl _ _).drew, below_step B9.out (Below.refl _ _).drew⟩
      exact results_cell_cell_flag rfl _ _ (w.heap.size + 1) (w.heap.size + 1 + 1) 61 _ _ _ _ rfl rfl rfl (K9.out.next (Below.refl _ _).drew) (L9.out.next (Below.refl _ _).drew) Try.underlying61 rfl (by kernel_rfl) (by kernel_rfl)
    · have P4 := Lib.hid hp2
      rcases hp2 with ⟨h, _⟩ | ⟨_, E2, d2', rfl, hv2⟩
      · cases h
      clear hb3 hv2
      go_wp2_with (fail)
      obtain ⟨w4, hw4⟩ : ∃ x, w3.alloc (.cells #[.iface 25 (.agg #[.int .i64 n, .int .i64 o, .slice A la ca, .slice B lb cb]), .slice E2 lg d2'] 61) = x := ⟨_, rfl⟩
      have J4 := Blk.new w3 61 #[.iface 25 (.agg #[.int .i64 n, .int .i64 o, .slice A la ca, .slice B lb cb]), .slice E2 lg d2']
      have b4 : Below w3.heap.size w3 w4 := by subst hw4; exact (Below.refl _ _).alloc (Nat.le_refl _) _
      rw [hw4] at J4
      rw [hw4]
      have G1 := Lib.hid (H1c.out.next b4)
      have G2 := Lib.hid (H2c.out.next b4)
      have GA := Lib.hid (J3.out.next b4)
      have GB := Lib.hid J4
      have Q1 := Lib.hid (P3.out.next b4)
      have Q2 := Lib.hid (P4.out.next b4)
      have B4 := Lib.hid (below_step B3.out b4)
      clear J4 b4 hw4
      have d0 := G1.out.cell 0
      have d1 := G1.out.cell 1
      have d2 := G2.out.cell 0
      have d3 := G2.out.cell 1
      have e0 := GA.out.cell 0
      have e1 := GA.out.cell 1
      have e2 := GB.out.cell 0
      have e3 := GB.out.cell 1
      have f0 := G1.out.frozen 0
      have f1 := G1.out.frozen 1
      have f2 := G2.out.frozen 0
      have f3 := G2.out.frozen 1
      simp at d0 d1 d2 d3 e0 e1 e2 e3
      have hz1 := HS.out
      have hz2 := S1.out
      obtain ⟨Q, hQ⟩ : ∃ Q, (((w4.setCell ⟨w.heap.size + 1, 0, none⟩ (.nilIface)).setCell ⟨w.heap.size + 1, 1, none⟩ (.slice none 0 0)).setCell ⟨w.heap.size + 1 + 1, 0, none⟩ (.iface 25 (.agg #[.int .i64 n, .int .i64 o, .slice A la ca, .slice B lb cb]))).setCell ⟨w.heap.size + 1 + 1, 1, none⟩ (.slice E2 lg d2') = Q := ⟨_, rfl⟩
      have K9 := Lib.hid (show Blk Q (w.heap.size + 1) 61 #[.nilIface, .slice none 0 0] by subst hQ; exact (((G1.out.set_ 0 _).set_ 1 _).far (by simp) _).far (by simp) _)
      have L9 := Lib.hid (show Blk Q (w.heap.size + 1 + 1) 61 #[.iface 25 (.agg #[.int .i64 n, .int .i64 o, .slice A la ca, .slice B lb cb]), .slice E2 lg d2'] by subst hQ; exact (((G2.out.far (by simp) _).far (by simp) _).set_ 0 _).set_ 1 _)
      have B9 := Lib.hid (show Below w.heap.size w Q by subst hQ; exact (((B4.out.setCell (by simp) _).setCell (by simp) _).setCell (by simp; omega) _).setCell (by simp; omega) _)
      have U1 := Lib.hid (show PolP w.heap.size Q _ _ _ _ _ by subst hQ; exact ((((Q1.out.set2 (by omega) _ _).set2 (by omega) _ _).set2 (by omega) _ _).set2 (by omega) _ _).down (by omega))
      have U2 := Lib.hid (show PolP w.heap.size Q _ _ _ _ _ by subst hQ; exact ((((Q2.out.set2 (by omega) _ _).set2 (by omega) _ _).set2 (by omega) _ _).set2 (by omega) _ _).down (by omega))
      go_region
      try rw [hQ]
      clear hQ d0 d1 d2 d3 e0 e1 e2 e3 f0 f1 f2 f3
      go_wp2_with (fail)
      refine bodyPost_ret (v := .tuple #[.agg #[.nilIface, .slice none 0 0], .agg #[.iface 25 (.agg #[.int .i64 n, .int .i64 o, .slice A la ca, .slice B lb cb]), .slice E2 lg d2'], .bool false]) ?_ rfl ⟨_, _, rfl, U1.out.next (Below.refl _ _).drew, U2.out.next (Below.refl _ _).drew, below_step B9.out (Below.refl _ _).drew⟩
      exact results_cell_cell_flag rfl _ _ (w.heap.size + 1) (w.heap.size + 1 + 1) 61 _ _ _ _ rfl rfl rfl (K9.out.next (Below.refl _ _).drew) (L9.out.next (Below.refl _ _).drew) Try.underlying61 rfl (by kernel_rfl) (by kernel_rfl)
  · rcases hp1 with ⟨h, _⟩ | ⟨_, E1, d1', rfl, hv1⟩
    · cases h
    clear hb1 hv1
    go_wp2_with (fail)
    obtain ⟨w2, hw2⟩ : ∃ x, w1.alloc (.cells #[.iface 25 (.agg #[.int .i64 n, .int .i64 o, .slice A la ca, .slice B lb cb]), .slice E1 lf d1'] 61) = x := ⟨_, rfl⟩
    have J2 := Blk.new w1 61 #[.iface 25 (.agg #[.int .i64 n, .int .i64 o, .slice A la ca, .slice B lb cb]), .slice E1 lf d1']
    have b2 : Below w1.heap.size w1 w2 := by subst hw2; exact (Below.refl _ _).alloc (Nat.le_refl _) _
    rw [hw2] at J2
    rw [hw2]
    have HW2 := Lib.hid (show Below W.heap.size W w2 from below_step HB1.out b2)
    have H0b := Lib.hid (H0.out.next b2)
    have H1b := Lib.hid (H1.out.next b2)
    have H2b := Lib.hid (H2.out.next b2)
    have B2 := Lib.hid (below_step B1.out b2)
    have P2 := Lib.hid (P1.out.next b2)
    have z2 := b2.size
    have HJ2 := Lib.hid J2
    clear hw2 b2 J2 c0 c1 c2 c3
    refine (pof_any n o A B K la ca lb cb lg cg X Y V w2 (HX.out.next HW2.out) (HY.out.next HW2.out) (HK.out.next HW2.out) hla hlb hlg hca hcb).mono ?_
    rintro e3 w3 ⟨p2, rfl, hp2, hb3⟩
    rw [HBV.out]
    rw [HBV.out] at hp2
    have J3 := Lib.hid (HJ2.out.next hb3)
    have H0c := Lib.hid (H0b.out.next hb3)
    have H1c := Lib.hid (H1b.out.next hb3)
    have H2c := Lib.hid (H2b.out.next hb3)
    have B3 := Lib.hid (below_step B2.out hb3)
    have P3 := Lib.hid (P2.out.next hb3)
    have z3 := hb3.size
    have hs3 := H2c.out.lt
    cases bv
    · have P4 := Lib.hid hp2
      rcases hp2 with ⟨_, rfl⟩ | ⟨h, _⟩
      rotate_left
      · cases h
      clear hb3
      go_wp2_with (fail)
      obtain ⟨w4, hw4⟩ : ∃ x, w3.alloc (.cells #[.nilIface, .slice none 0 0] 61) = x := ⟨_, rfl⟩
      have J4 := Blk.new w3 61 #[.nilIface, .slice none 0 0]
      have b4 : Below w3.heap.size w3 w4 := by subst hw4; exact (Below.refl _ _).alloc (Nat.le_refl _) _
      rw [hw4] at J4
      rw [hw4]
      have G1 := Lib.hid (H1c.out.next b4)
      have G2 := Lib.hid (H2c.out.next b4)
      have GA := Lib.hid (J3.out.next b4)
      have GB := Lib.hid J4
      have Q1 := Lib.hid (P3.out.next b4)
      have Q2 := Lib.hid (P4.out.next b4)
      have B4 := Lib.hid (below_step B3.out b4)
      clear J4 b4 hw4
      have d0 := G1.out.cell 0
      have d1 := G1.out.cell 1
      have d2 := G2.out.cell 0
      have d3 := G2.out.cell 1
      have e0 := GA.out.cell 0
      have e1 := GA.out.cell 1
      have e2 := GB.out.cell 0
      have e3 := GB.out.cell 1
      have f0 := G1.out.frozen 0
      have f1 := G1.out.frozen 1
      have f2 := G2.out.frozen 0
      have f3 := G2.out.frozen 1
      simp at d0 d1 d2 d3 e0 e1 e2 e3
      have hz1 := HS.out
      have hz2 := S1.out
      obtain ⟨Q, hQ⟩ : ∃ Q, (((w4.setCell ⟨w.heap.size + 1, 0, none⟩ (.iface 25 (.agg #[.int .i64 n, .int .i64 o, .slice A la ca, .slice B lb cb]))).setCell ⟨w.heap.size + 1, 1, none⟩ (.slice E1 lf d1')).setCell ⟨w.heap.size + 1 + 1, 0, none⟩ (.nilIface)).setCell ⟨w.heap.size + 1 + 1, 1, none⟩ (.slice none 0 0) = Q := ⟨_, rfl⟩
      have K9 := Lib.hid (show Blk Q (w.heap.size + 1) 61 #[.iface 25 (.agg #[.int .i64 n, .int .i64 o, .slice A la ca, .slice B lb cb]), .slice E1 lf d1'] by subst hQ; exact (((G1.out.set_ 0 _).set_ 1 _).far (by simp) _).far (by simp) _)
      have L9 := Lib.hid (show Blk Q (w.heap.size + 1 + 1) 61 #[.nilIface, .slice none 0 0] by subst hQ; exact (((G2.out.far (by simp) _).far (by simp) _).set_ 0 _).set_ 1 _)
      have B9 := Lib.hid (show Below w.heap.size w Q by subst hQ; exact (((B4.out.setCell (by simp) _).setCell (by simp) _).setCell (by simp; omega) _).setCell (by simp; omega) _)
      have U1 := Lib.hid (show PolP w.heap.size Q _ _ _ _ _ by subst hQ; exact ((((Q1.out.set2 (by omega) _ _).set2 (by omega) _ _).set2 (by omega) _ _).set2 (by omega) _ _).down (by omega))
      have U2 := Lib.hid (show PolP w.heap.size Q _ _ _ _ _ by subst hQ; exact ((((Q2.out.set2 (by omega) _ _).set2 (by omega) _ _).set2 (by omega) _ _).set2 (by omega) _ _).down (by omega))
      go_region
      try rw [hQ]
      clear hQ d0 d1 d2 d3 e0 e1 e2 e3 f0 f1 f2 f3
      go_wp2_with (fail)
      refine bodyPost_ret (v := .tuple #[.agg #[.iface 25 (.agg #[.int .i64 n, .int .i64 o, .slice A la ca, .slice B lb cb]), .slice E1 lf d1'], .agg #[.nilIface, .slice none 0 0], .bool false]) ?_ rfl ⟨_, _, rfl, U1.out.next (Below.refl _ _).drew, U2.out.next (Below.refl _ _).drew, below_step B9.out (Below.refl _ _).drew⟩
      exact results_cell_cell_flag rfl _ _ (w.heap.size + 1) (w.heap.size + 1 + 1) 61 _ _ _ _ rfl rfl rfl (K9.out.next (Below.refl _ _).drew) (L9.out.next (Below.refl _ _).drew) Try.underlying61 rfl (by kernel_rfl) (by kernel_rfl)
    · have P4 := Lib.hid hp2
      rcases hp2 with ⟨h, _⟩ | ⟨_, E2, d2', rfl, hv2⟩
      · cases h
      clear hb3 hv2
      go_wp2_with (fail)
      obtain ⟨w4, hw4⟩ : ∃ x, w3.alloc (.cells #[.iface 25 (.agg #[.int .i64 n, .int .i64 o, .slice A la ca, .slice B lb cb]), .slice E2 lg d2'] 61) = x := ⟨_, rfl⟩
      have J4 := Blk.new w3 61 #[.iface 25 (.agg #[.int .i64 n, .int .i64 o, .slice A la ca, .slice B lb cb]), .slice E2 lg d2']
      have b4 : Below w3.heap.size w3 w4 := by subst hw4; exact (Below.refl _ _).alloc (Nat.le_refl _) _
      rw [hw4] at J4
      rw [hw4]
      have G1 := Lib.hid (H1c.out.next b4)
      have G2 := Lib.hid (H2c.out.next b4)
      have GA := Lib.hid (J3.out.next b4)
      have GB := Lib.hid J4
      have Q1 := Lib.hid (P3.out.next b4)
      have Q2 := Lib.hid (P4.out.next b4)
      have B4 := Lib.hid (below_step B3.out b4)
      clear J4 b4 hw4
      have d0 := G1.out.cell 0
      have d1 := G1.out.cell 1
      have d2 := G2.out.cell 0
      have d3 := G2.out.cell 1
      have e0 := GA.out.cell 0
      have e1 := GA.out.cell 1
      have e2 := GB.out.cell 0
      have e3 := GB.out.cell 1
      have f0 := G1.out.frozen 0
      have f1 := G1.out.frozen 1
      have f2 := G2.out.frozen 0
      have f3 := G2.out.frozen 1
      simp at d0 d1 d2 d3 e0 e1 e2 e3
      have hz1 := HS.out
      have hz2 := S1.out
      obtain ⟨Q, hQ⟩ : ∃ Q, (((w4.setCell ⟨w.heap.size + 1, 0, none⟩ (.iface 25 (.agg #[.int .i64 n, .int .i64 o, .slice A la ca, .slice B lb cb]))).setCell ⟨w.heap.size + 1, 1, none⟩ (.slice E1 lf d1')).setCell ⟨w.heap.size + 1 + 1, 0, none⟩ (.iface 25 (.agg #[.int .i64 n, .int .i64 o, .slice A la ca, .slice B lb cb]))).setCell ⟨w.heap.size + 1 + 1, 1, none⟩ (.slice E2 lg d2') = Q := ⟨_, rfl⟩
      have K9 := Lib.hid (show Blk Q (w.heap.size + 1) 61 #[.iface 25 (.agg #[.int .i64 n, .int .i64 o, .slice A la ca, .slice B lb cb]), .slice E1 lf d1'] by subst hQ; exact (((G1.out.set_ 0 _).set_ 1 _).far (by simp) _).far (by simp) _)
      have L9 := Lib.hid (show Blk Q (w.heap.size + 1 + 1) 61 #[.iface 25 (.agg #[.int .i64 n, .int .i64 o, .slice A la ca, .slice B lb cb]), .slice E2 lg d2'] by subst hQ; exact (((G2.out.far (by simp) _).far (by simp) _).set_ 0 _).set_ 1 _)
      have B9 := Lib.hid (show Below w.heap.size w Q by subst hQ; exact (((B4.out.setCell (by simp) _).setCell (by simp) _).setCell (by simp; omega) _).setCell (by simp; omega) _)
      have U1 := Lib.hid (show PolP w.heap.size Q _ _ _ _ _ by subst hQ; exact ((((Q1.out.set2 (by omega) _ _).set2 (by omega) _ _).set2 (by omega) _ _).set2 (by omega) _ _).down (by omega))
      have U2 := Lib.hid (show PolP w.heap.size Q _ _ _ _ _ by subst hQ; exact ((((Q2.out.set2 (by omega) _ _).set2 (by omega) _ _).set2 (by omega) _ _).set2 (by omega) _ _).down (by omega))
      go_region
      try rw [hQ]
      clear hQ d0 d1 d2 d3 e0 e1 e2 e3 f0 f1 f2 f3
      go_wp2_with (fail)
      refine bodyPost_ret (v := .tuple #[.agg #[.iface 25 (.agg #[.int .i64 n, .int .i64 o, .slice A la ca, .slice B lb cb]), .slice E1 lf d1'], .agg #[.iface 25 (.agg #[.int .i64 n, .int .i64 o, .slice A la ca, .slice B lb cb]), .slice E2 lg d2'], .bool true]) ?_ rfl ⟨_, _, rfl, U1.out.next (Below.refl _ _).drew, U2.out.next (Below.refl _ _).drew, below_step B9.out (Below.refl _ _).drew⟩
      exact results_cell_cell_flag rfl _ _ (w.heap.size + 1) (w.heap.size + 1 + 1) 61 _ _ _ _ rfl rfl rfl (K9.out.next (Below.refl _ _).drew) (L9.out.next (Below.refl _ _).drew) Try.underlying61 rfl (by kernel_rfl) (by kernel_rfl)

end Go.Proofs.Ytlcpbdbdiahmjaa



/- The program's fromPolynomials, whatever the method makes. -/
namespace Go.Proofs.Ytlcpbdbdiahmjaa
open Go.RowKit
set_option maxRecDepth 100000

theorem pol_field (a b : Value) (w : World) : (Instr.field 61 (.agg #[a, b]) 1).run Try.prog w = .ok b w := by kernel_rfl

set_option maxHeartbeats 8000000 in
theorem frp_any (n o : Int) (A B F K : Option Addr) (la ca lb cb lf cf lg cg f k : Nat) (H : Nat → Nat) (X Y Z V : List Int) (w : World) (hX : Ints w w.heap.size A la X) (hY : Ints w w.heap.size B lb Y) (hF : Ints w w.heap.size F lf Z) (hK : Ints w w.heap.size K lg V) (hla : la ≤ 9223372036854775807) (hlb : lb ≤ 9223372036854775807) (hlf : lf ≤ 9223372036854775807) (hlg : lg ≤ 9223372036854775807) (hca : la ≤ ca) (hcb : lb ≤ cb)
    (ef : ∀ args w, (callFunc f args).run Try.prog w = .ok (.enter f args) w)
    (hf : twoB n o X Y Z V = true → ∀ E1 c1 E2 c2 x, Below w.heap.size w x → Ints x x.heap.size E1 lf (lstF (tabOf Z) lf) → Ints x x.heap.size E2 lg (lstF (tabOf V) lg) →
      Calls Try.prog f #[.agg #[.iface 25 (.agg #[.int .i64 n, .int .i64 o, .slice A la ca, .slice B lb cb]), .slice E1 lf c1], .agg #[.iface 25 (.agg #[.int .i64 n, .int .i64 o, .slice A la ca, .slice B lb cb]), .slice E2 lg c2]] x fun e' w' => ∃ v, e' = .returned (.agg #[.iface 25 (.agg #[.int .i64 n, .int .i64 o, .slice A la ca, .slice B lb cb]), v]) ∧ PolV x.heap.size w' v k H ∧ Below x.heap.size x w') :
    Calls Try.prog 55 #[.agg #[.int .i64 n, .int .i64 o, .slice A la ca, .slice B lb cb], .slice F lf cf, .slice K lg cg, .func (.func f) #[] #[]] w fun e' w' => ∃ v, e' = .returned (.tuple #[v, .bool (twoB n o X Y Z V && decide (k ≤ 8))]) ∧ SliceOut w.heap.size w' v (if (twoB n o X Y Z V && decide (k ≤ 8)) = true then lstF H k else []) ∧ Below w.heap.size w w' := by
  obtain ⟨W, hW⟩ : ∃ W, w.alloc (.cells #[.int .i64 n, .int .i64 o, .slice A la ca, .slice B lb cb] 25) = W := ⟨_, rfl⟩
  have k0 : Blk W w.heap.size 25 #[.int .i64 n, .int .i64 o, .slice A la ca, .slice B lb cb] := by subst hW; exact Blk.new w _ _
  have b0 : Below w.heap.size w W := by subst hW; exact (Below.refl _ _).alloc (Nat.le_refl _) _
  have HX := Lib.hid (hX.next b0)
  have HY := Lib.hid (hY.next b0)
  have HF := Lib.hid (hF.next b0)
  have HK := Lib.hid (hK.next b0)
  have B0 := Lib.hid b0
  have HW := Lib.hid hW
  have HFF := Lib.hid hf
  have hs0 := k0.lt
  have hfl := pol_field
  have TB := Lib.hid (show twoB n o X Y Z V = (polB n o X Y Z && polB n o X Y V) from rfl)
  obtain ⟨c0, c1, c2, c3⟩ := blk4 k0
  clear hX hY hF hK k0 b0 hW hf
  cases ht : twoB n o X Y Z V
  · have HT := Lib.hid ht
    clear ht
    go_enter Try.func55, Try.ntmps55
    go_wp2_with (fail)
    rw [HW.out]
    refine (pofs_any n o A B F K la ca lb cb lf cf lg cg X Y Z V W HX.out HY.out HF.out HK.out hla hlb hlf hlg hca hcb).mono ?_
    rintro e1 w1 ⟨p, q, rfl, hp, hq, hb1⟩
    rw [HT.out]
    obtain ⟨ov1, A1, k1, d1, rfl, hov1⟩ := hp.cells
    obtain ⟨ov2, A2, k2, d2, rfl, hov2⟩ := hq.cells
    have B1 := Lib.hid (below_step B0.out hb1)
    clear hb1 hp hq
    rcases hov1 with rfl | rfl <;> rcases hov2 with rfl | rfl
    all_goals
      go_wp2
      go_ret2
      exact ⟨.slice none 0 0, rfl, SliceOut.nil, below_step B1.out (((Below.refl _ _).alloc (Nat.le_refl _) _).alloc (by simp) _)⟩
  · have HT := Lib.hid ht
    rw [TB.out] at ht
    have hpz : polB n o X Y Z = true := by cases h : polB n o X Y Z <;> simp [h] at ht ⊢
    have hpv : polB n o X Y V = true := by cases h : polB n o X Y V <;> simp [h] at ht ⊢
    have HZ := Lib.hid hpz
    have HV := Lib.hid hpv
    clear ht hpz hpv
    obtain ⟨bk, hbk⟩ : ∃ b, (true && decide (k ≤ 8)) = b := ⟨_, rfl⟩
    rw [hbk]
    have HBK := Lib.hid hbk
    clear hbk
    go_enter Try.func55, Try.ntmps55
    go_wp2_with (fail)
    rw [HW.out]
    refine (pofs_any n o A B F K la ca lb cb lf cf lg cg X Y Z V W HX.out HY.out HF.out HK.out hla hlb hlf hlg hca hcb).mono ?_
    rintro e1 w1 ⟨p, q, rfl, hp, hq, hb1⟩
    rw [HT.out]
    rw [HZ.out] at hp
    rw [HV.out] at hq
    rcases hp with ⟨h, _⟩ | ⟨_, E1, d1, rfl, hv1⟩
    · cases h
    rcases hq with ⟨h, _⟩ | ⟨_, E2, d2, rfl, hv2⟩
    · cases h
    have i1 : Ints w1 w1.heap.size E1 lf (lstF (tabOf Z) lf) := by
      obtain ⟨_, _, e, ho, _⟩ := hv1
      simp only [Value.slice.injEq, true_and] at e
      obtain ⟨rfl, rfl⟩ := e
      exact ho.ints
    have i2 : Ints w1 w1.heap.size E2 lg (lstF (tabOf V) lg) := by
      obtain ⟨_, _, e, ho, _⟩ := hv2
      simp only [Value.slice.injEq, true_and] at e
      obtain ⟨rfl, rfl⟩ := e
      exact ho.ints
    obtain ⟨w2, hw2⟩ : ∃ x, (w1.alloc (.cells #[.iface 25 (.agg #[.int .i64 n, .int .i64 o, .slice A la ca, .slice B lb cb]), .slice E1 lf d1] 61)).alloc (.cells #[.iface 25 (.agg #[.int .i64 n, .int .i64 o, .slice A la ca, .slice B lb cb]), .slice E2 lg d2] 61) = x := ⟨_, rfl⟩
    have b2 : Below w1.heap.size w1 w2 := by subst hw2; exact ((Below.refl _ _).alloc (Nat.le_refl _) _).alloc (by simp) _
    have HW2 := Lib.hid hw2
    have B2 := Lib.hid (below_step (below_step B0.out hb1) b2)
    have I1 := Lib.hid (i1.next b2)
    have I2 := Lib.hid (i2.next b2)
    clear hb1 hv1 hv2 i1 i2 b2 hw2
    by_cases hk8 : k ≤ 8
    · have t1 : ¬ (8 : Int) < (k : Int) := by omega
      obtain rfl : bk = true := by rw [← HBK.out, decide_eq_true hk8]; rfl
      go_wp2_with (fail)
      rw [HW2.out]
      refine (HFF.out HT.out E1 d1 E2 d2 w2 B2.out I1.out I2.out).mono ?_
      rintro e3 w3 ⟨v3, rfl, hv3, hb3⟩
      have hv3' := hv3
      obtain ⟨E3, d3, rfl, _⟩ := hv3'
      have P3 := Lib.hid hv3.out
      have B3 := Lib.hid (below_step B2.out hb3)
      have sz := B2.out.size
      clear hb3 hv3
      go_wp2
      go_ret2
      exact ⟨.slice E3 k d3, rfl, P3.out.down sz, B3.out⟩
    · have t1 : (8 : Int) < (k : Int) := by omega
      obtain rfl : bk = false := by rw [← HBK.out, decide_eq_false hk8]; rfl
      go_wp2_with (fail)
      rw [HW2.out]
      refine (HFF.out HT.out E1 d1 E2 d2 w2 B2.out I1.out I2.out).mono ?_
      rintro e3 w3 ⟨v3, rfl, hv3, hb3⟩
      obtain ⟨E3, d3, rfl, _⟩ := hv3
      have B3 := Lib.hid (below_step B2.out hb3)
      clear hb3
      go_wp2
      go_ret2
      exact ⟨.slice none 0 0, rfl, SliceOut.nil, B3.out⟩

end Go.Proofs.Ytlcpbdbdiahmjaa



/- l9Both; AddPoly of both sides. -/
namespace Go.Proofs.Ytlcpbdbdiahmjaa
open Go.RowKit
set_option maxRecDepth 100000

section
variable {n o : Int} {X Y Z V : List Int}
theorem two_data (h : twoB n o X Y Z V = true) : polB n o X Y Z = true ∧ polB n o X Y V = true := by
  unfold twoB at h
  rwa [Bool.and_eq_true] at h
theorem two_no1 (h : polB n o X Y Z = false) : twoB n o X Y Z V = false := by unfold twoB; rw [h]; rfl
theorem two_yes (h : polB n o X Y Z = true) (h2 : polB n o X Y V = true) : twoB n o X Y Z V = true := by unfold twoB; rw [h, h2]; rfl
theorem padL_yes (h : twoB n o X Y Z V = true) : padL n o X Y Z V = lstF (sumF n X Z V) (sumK n X Z V) := if_pos h
/-- What two valid lists say, over a ring that is there. -/
theorem two_facts {m e lf lg : Nat} (h : twoB (m : Int) (e : Int) X Y Z V = true) (hZ : Z.length = lf) (hV : V.length = lg) : lf ≤ 8 ∧ lg ≤ 8 ∧ (∀ i, i < lf → tabOf Z i < m) ∧ (∀ i, i < lg → tabOf V i < m) ∧ lstF (tabOf Z) lf = Z ∧ lstF (tabOf V) lg = V := by
  subst hZ hV
  obtain ⟨h1, h2⟩ := two_data h
  obtain ⟨_, a1, a2, a3, _⟩ := pol_data h1
  obtain ⟨_, b1, b2, b3, _⟩ := pol_data h2
  exact ⟨a1, b1, fun i hi => by simpa using (a2 i hi).2, fun i hi => by simpa using (b2 i hi).2, a3, b3⟩
end

set_option maxHeartbeats 4000000 in
theorem l9Both_any (n o : Int) (A B F K : Option Addr) (la ca lb cb lf cf lg cg : Nat) (X Y Z V : List Int) (w : World) (hX : Ints w w.heap.size A la X) (hY : Ints w w.heap.size B lb Y) (hF : Ints w w.heap.size F lf Z) (hK : Ints w w.heap.size K lg V) (hla : la ≤ 9223372036854775807) (hlb : lb ≤ 9223372036854775807) (hlf : lf ≤ 9223372036854775807) (hlg : lg ≤ 9223372036854775807) (hca : la ≤ ca) (hcb : lb ≤ cb) :
    Calls Try.prog 49 #[.agg #[.int .i64 n, .int .i64 o, .slice A la ca, .slice B lb cb], .slice F lf cf, .slice K lg cg] w fun e' w' => e' = .returned (.bool (twoB n o X Y Z V)) ∧ Below w.heap.size w w' := by
  obtain ⟨W, hW⟩ : ∃ W, w.alloc (.cells #[.int .i64 n, .int .i64 o, .slice A la ca, .slice B lb cb] 25) = W := ⟨_, rfl⟩
  have k0 : Blk W w.heap.size 25 #[.int .i64 n, .int .i64 o, .slice A la ca, .slice B lb cb] := by subst hW; exact Blk.new w _ _
  have b0 : Below w.heap.size w W := by subst hW; exact (Below.refl _ _).alloc (Nat.le_refl _) _
  have HX := Lib.hid (hX.next b0)
  have HY := Lib.hid (hY.next b0)
  have HF := Lib.hid (hF.next b0)
  have HK := Lib.hid (hK.next b0)
  have B0 := Lib.hid b0
  have K0 := Lib.hid k0
  have HW := Lib.hid hW
  have hs0 := k0.lt
  obtain ⟨c0, c1, c2, c3⟩ := blk4 k0
  clear hX hY hF hK k0 b0 hW
  cases hp : polB n o X Y Z
  · rw [two_no1 hp]
    go_enter Try.func49, Try.ntmps49
    go_wp2_with (fail)
    rw [HW.out]
    go_wp2_with (go_at_call 95; ((with_reducible refine (spol_any n o A B F la ca lb cb lf cf X Y Z W HX.out HY.out HF.out hla hlb hlf hca hcb).mono ?_); rintro e1 w1 ⟨rfl, hb1⟩; rw [hp]; have B1 := Lib.hid (below_step B0.out hb1); clear hb1))
    go_ret
    exact ⟨ret_bool rfl, B1.out⟩
  · obtain ⟨bq, hbq⟩ : ∃ b, polB n o X Y V = b := ⟨_, rfl⟩
    have HQ := Lib.hid hbq
    have hr : twoB n o X Y Z V = bq := by unfold twoB; rw [hp, hbq]; rfl
    rw [hr]
    clear hbq hr
    go_enter Try.func49, Try.ntmps49
    go_wp2_with (fail)
    rw [HW.out]
    refine (spol_any n o A B F la ca lb cb lf cf X Y Z W HX.out HY.out HF.out hla hlb hlf hca hcb).mono ?_
    rintro e1 w1 ⟨rfl, hb1⟩
    rw [hp]
    have B1 := Lib.hid (below_step B0.out hb1)
    have K1 := Lib.hid (K0.out.next hb1)
    have HB := Lib.hid hb1
    clear hb1 c0 c1 c2 c3
    obtain ⟨c0, c1, c2, c3⟩ := blk4 K1.out
    go_wp2_with (fail)
    refine (spol_any n o A B K la ca lb cb lg cg X Y V w1 (HX.out.next HB.out) (HY.out.next HB.out) (HK.out.next HB.out) hla hlb hlg hca hcb).mono ?_
    rintro e2 w2 ⟨rfl, hb2⟩
    rw [HQ.out]
    have B2 := Lib.hid (below_step B1.out hb2)
    clear hb2
    go_wp2
    go_ret
    exact ⟨ret_bool rfl, B2.out⟩

theorem pad_any (n o : Int) (A B F K : Option Addr) (la ca lb cb lf cf lg cg : Nat) (X Y Z V : List Int) (w : World) (hX : Ints w w.heap.size A la X) (hY : Ints w w.heap.size B lb Y) (hF : Ints w w.heap.size F lf Z) (hK : Ints w w.heap.size K lg V) (hla : la ≤ 9223372036854775807) (hlb : lb ≤ 9223372036854775807) (hlf : lf ≤ 9223372036854775807) (hlg : lg ≤ 9223372036854775807) (hca : la ≤ ca) (hcb : lb ≤ cb) :
    Calls Try.prog 17 #[.agg #[.int .i64 n, .int .i64 o, .slice A la ca, .slice B lb cb], .slice F lf cf, .slice K lg cg] w fun e' w' => ∃ v, e' = .returned (.tuple #[v, .bool (twoB n o X Y Z V)]) ∧ SliceOut w.heap.size w' v (padL n o X Y Z V) ∧ Below w.heap.size w w' := by
  obtain ⟨W, hW⟩ : ∃ W, w.alloc (.cells #[.int .i64 n, .int .i64 o, .slice A la ca, .slice B lb cb] 25) = W := ⟨_, rfl⟩
  have b0 : Below w.heap.size w W := by subst hW; exact (Below.refl _ _).alloc (Nat.le_refl _) _
  have hZ := hF.1
  have hV := hK.1
  have HX := hX.next b0
  have HY := hY.next b0
  have EP := enters_of Try.func57 (by kernel_rfl) rfl
  have hk : sumK n X Z V ≤ max lf lg := by
    have := tl_le (F := sumF n X Z V) (max Z.length V.length)
    rw [hZ, hV] at this
    unfold sumK
    rw [hZ, hV]
    exact this
  have hb : (twoB n o X Y Z V && decide (sumK n X Z V ≤ 8)) = twoB n o X Y Z V := by
    cases ht : twoB n o X Y Z V
    · rfl
    · have h1 := (pol_data (two_data ht).1).2.1
      have h2 := (pol_data (two_data ht).2).2.1
      rw [decide_eq_true (by omega)]
      rfl
  have H := frp_any n o A B F K la ca lb cb lf cf lg cg 57 (sumK n X Z V) (sumF n X Z V) X Y Z V W HX HY (hF.next b0) (hK.next b0) hla hlb hlf hlg hca hcb EP (fun ht E1 c1 E2 c2 x hx i1 i2 => by
    obtain ⟨m, e, b1, o1, b2, o2, rfl, rfl, rfl, rfl, hr, _⟩ := valid_data (pol_data (two_data ht).1).1 (HX.next hx) (HY.next hx) hca hcb
    obtain ⟨f1, f2, f3, f4, f5, f6⟩ := two_facts ht hZ hV
    have hp := plus_any (tabOf Z) (tabOf V) E1 E2 lf lg c1 c2 25 (.agg #[.int .i64 m, .int .i64 e, .slice (some ⟨b1, o1, none⟩) la ca, .slice (some ⟨b2, o2, none⟩) lb cb]) m e b1 o1 la ca b2 o2 lb cb (tabOf X) (tabOf Y) x hr i1 i2 (by omega) (by omega) f3 f4
    unfold sumK sumF
    rw [hZ, hV]
    simpa using hp)
  rw [hb] at H
  have H := Lib.hid H
  have B0 := Lib.hid b0
  have HW := Lib.hid hW
  have sz := b0.size
  have hs0 : w.heap.size < W.heap.size := by rw [← hW]; simp
  obtain ⟨c0, c1, c2, c3, _⟩ := box4_new w (.int .i64 n) (.int .i64 o) (.slice A la ca) (.slice B lb cb) 25
  rw [hW] at c0 c1 c2 c3
  have HP : padL n o X Y Z V = if twoB n o X Y Z V = true then lstF (sumF n X Z V) (sumK n X Z V) else [] := rfl
  rw [HP]
  obtain ⟨ZL, hZL⟩ : ∃ x, (if twoB n o X Y Z V = true then lstF (sumF n X Z V) (sumK n X Z V) else []) = x := ⟨_, rfl⟩
  obtain ⟨bb, hbb⟩ : ∃ x, twoB n o X Y Z V = x := ⟨_, rfl⟩
  rw [hZL, hbb] at H
  rw [hZL, hbb]
  clear hX hY hF hK b0 hW hZ hV HX HY EP hk hb HP hZL hbb
  go_enter Try.func17, Try.ntmps17
  go_wp2_with (fail)
  rw [HW.out]
  refine H.out.mono ?_
  rintro e1 w1 ⟨v, rfl, ho, hb1⟩
  have B1 := Lib.hid (below_step B0.out hb1)
  have HO := Lib.hid (ho.down sz)
  clear ho hb1
  go_wp2
  go_ret2
  exact ⟨v, rfl, HO.out, B1.out⟩

end Go.Proofs.Ytlcpbdbdiahmjaa



/- The program's times; MulPoly of both sides. -/
namespace Go.Proofs.Ytlcpbdbdiahmjaa
open Go.RowKit
set_option maxRecDepth 100000

theorem mul_zero0 {m lg : Nat} {S P F G : Nat → Nat} : mulF m S P F G lg (0 * lg) = fun _ => 0 := by rw [Nat.zero_mul]; rfl
theorem own_zero {w : World} {D n : Nat} {v : Value} {H : Nat → Nat} (h : w.ownsRow D 3 1 v n (madeCells (Value.int .i64 0).cells (n * 1)).toList) (hH : H = fun _ => 0) : w.ownsRow D 3 1 v n ((lstF H n).map (.int .i64)) := by
  rw [hH, ← lstV_made]
  exact h

set_option maxHeartbeats 4000000 in
theorem times_poly (F G : Nat → Nat) (E K : Option Addr) (lf lg cf cg : Nat) (T2 : TypeId) (rv2 : Value) (m e b1 o1 la ca b2 o2 lb cb : Nat) (S P : Nat → Nat) (w : World) (hr : RingAt w m e b1 o1 la ca b2 o2 lb cb S P) (hF : Ints w w.heap.size E lf (lstF F lf)) (hG : Ints w w.heap.size K lg (lstF G lg)) (hlf : lf ≤ 100) (hlg : lg ≤ 100) (hf : ∀ i, i < lf → F i < m) (hg : ∀ i, i < lg → G i < m) :
    Calls Try.prog 56 #[.agg #[.iface 25 (.agg #[.int .i64 m, .int .i64 e, .slice (some ⟨b1, o1, none⟩) la ca, .slice (some ⟨b2, o2, none⟩) lb cb]), .slice E lf cf], .agg #[.iface T2 rv2, .slice K lg cg]] w fun e' w' => ∃ v, e' = .returned (.agg #[.iface 25 (.agg #[.int .i64 m, .int .i64 e, .slice (some ⟨b1, o1, none⟩) la ca, .slice (some ⟨b2, o2, none⟩) lb cb]), v]) ∧ PolV w.heap.size w' v (tlN (mulF m S P F G lg (lf * lg)) (lf + lg)) (mulF m S P F G lg (lf * lg)) ∧ Below w.heap.size w w' := by
  obtain ⟨i0, hi, hz0, hz1, hz2⟩ := info_parts int_info
  have HG' := Lib.hid hg
  have HF' := Lib.hid hf
  have ML := Lib.hid (mul_lt (m := m) (S := S) (P := P) hr.hm (fun k hk => (hr.ts.2 k hk).2) (fun k hk => (hr.tp.2 k hk).2) hf hg)
  have HP := Lib.hid (show ∀ a b, a < m → b < m → P (a * m + b) < m from fun a b ha hb => hr.tp.lt ha hb)
  have q1 := rg_product (.agg #[.int .i64 m, .int .i64 e, .slice (some ⟨b1, o1, none⟩) la ca, .slice (some ⟨b2, o2, none⟩) lb cb])
  have q3 := rg_productA (.agg #[.int .i64 m, .int .i64 e, .slice (some ⟨b1, o1, none⟩) la ca, .slice (some ⟨b2, o2, none⟩) lb cb])
  have q2 := rg_sum (.agg #[.int .i64 m, .int .i64 e, .slice (some ⟨b1, o1, none⟩) la ca, .slice (some ⟨b2, o2, none⟩) lb cb])
  have q4 := rg_sumA (.agg #[.int .i64 m, .int .i64 e, .slice (some ⟨b1, o1, none⟩) la ca, .slice (some ⟨b2, o2, none⟩) lb cb])
  obtain ⟨W, hW, k0, k1, k2, b0, hsW⟩ := two_boxes (.iface 25 (.agg #[.int .i64 m, .int .i64 e, .slice (some ⟨b1, o1, none⟩) la ca, .slice (some ⟨b2, o2, none⟩) lb cb])) (.slice E lf cf) (.iface T2 rv2) (.slice K lg cg) w
  obtain ⟨D, hD⟩ : ∃ D, W.heap.size = D := ⟨_, rfl⟩
  have hDs : D = w.heap.size + 1 + 1 + 1 := by omega
  have R0 := Lib.hid (hr.next b0)
  have F0 := Lib.hid (hF.next b0)
  have G0 := Lib.hid (hG.next b0)
  have HW := Lib.hid hW
  have B0 := Lib.hid b0
  have K0 := Lib.hid k0
  have K1 := Lib.hid k1
  have K2 := Lib.hid k2
  have HDS := Lib.hid hDs
  have T0 := Lib.hid (show ∀ x, Below D W x → Blk x w.heap.size 61 #[.iface 25 (.agg #[.int .i64 m, .int .i64 e, .slice (some ⟨b1, o1, none⟩) la ca, .slice (some ⟨b2, o2, none⟩) lb cb]), .slice E lf cf] from fun x hx => k0.below hx (by omega))
  have T1 := Lib.hid (show ∀ x, Below D W x → Blk x (w.heap.size + 1) 61 #[.iface T2 rv2, .slice K lg cg] from fun x hx => k1.below hx (by omega))
  have T3 := Lib.hid (show ∀ x, Below D W x → Blk x (w.heap.size + 1 + 1) 61 #[.nilIface, .slice none 0 0] from fun x hx => k2.below hx (by omega))
  have TR := Lib.hid (show ∀ x, Below D W x → RingAt x m e b1 o1 la ca b2 o2 lb cb S P from fun x hx => R0.out.next (hD ▸ hx))
  have TF := Lib.hid (show ∀ x, Below D W x → Ints x D E lf (lstF F lf) from fun x hx => by rw [← hD]; exact F0.out.below (hD ▸ hx) (Nat.le_refl _))
  have TG := Lib.hid (show ∀ x, Below D W x → Ints x D K lg (lstF G lg) from fun x hx => by rw [← hD]; exact G0.out.below (hD ▸ hx) (Nat.le_refl _))
  have x0 := k0.cell 0
  have x1 := k0.cell 1
  have y0 := k1.cell 0
  have y1 := k1.cell 1
  simp at x0 x1 y0 y1
  have tl : (lf : Int) + lg = ((lf + lg : Nat) : Int) := by omega
  have TL := Lib.hid tl
  have tw : IntKind.i64.wrap ((lf : Int) + lg) = (lf : Int) + lg := IntWalk.i64_in _ (by omega)
  clear hr hF hG b0 hW hf hg k0 k1 k2 hsW hDs tl
  go_enter Try.func56, Try.ntmps56
  go_wp2_with (at_make; (rw [HW.out]; refine wpList_make_full W rfl _ _ 23 rfl D 3 i0 (.int .i64 0) 1 Try.underlying23 hi hz0 hz1 .i64 .i64 _ _ (lf + lg) rfl rfl TL.out TL.out (by rw [hz2]; omega) (by unfold maxLen; omega) (by omega) ?_; intro w1 hown1 hg1; rw [hD] at hown1; rw [hD]; have B1 := Lib.hid (show Below D W w1 from (Below.refl _ _).grown hg1 (by omega) (by simp)); have x0 := (T0.out _ B1.out).cell 0; have x1 := (T0.out _ B1.out).cell 1; simp at x0 x1; have O1 := Lib.hid (own_zero hown1 (mul_zero0 (m := m) (S := S) (P := P) (F := F) (G := G) (lg := lg))); clear hown1 hg1))
  go_loopg [21] lf (fun g i wr => ∃ k : Nat, k ≤ lf ∧ lf ≤ k + g ∧ i = .int .i64 k ∧ wr.ownsRow D 3 1 (.slice (some ⟨D, 0, none⟩) (lf + lg) (lf + lg)) (lf + lg) ((lstF (mulF m S P F G lg (k * lg)) (lf + lg)).map (.int .i64)) ∧ Below D W wr)
  case atStart => exact ⟨0, Nat.zero_le _, by omega, rfl, O1.out, B1.out⟩
  case round =>
    obtain ⟨k, hk, hgk, rfl, hown, hb⟩ := hrel
    have OK := Lib.hid hown
    have BK := Lib.hid hb
    have hszk := hb.size
    clear hown hb
    by_cases hkl : k < lf
    · have hki : (k : Int) < (lf : Int) := by omega
      have FK := TF.out wr BK.out
      obtain ⟨bf, of, rfl, hbf⟩ := lstF_addr FK (by omega)
      have fc := lstF_cell FK hkl
      have u0 := (T1.out wr BK.out).cell 0
      have u1 := (T1.out wr BK.out).cell 1
      simp at u0 u1
      clear FK
      have hfm := HF'.out k hkl
      have MI := Lib.hid (mul_in (lg := lg) hkl)
      obtain ⟨x, hx⟩ : ∃ x, F k = x := ⟨_, rfl⟩
      rw [hx] at fc hfm
      have HX := Lib.hid hx
      obtain ⟨z, hz⟩ : ∃ z, k * lg = z := ⟨_, rfl⟩
      have HZ := Lib.hid hz
      have OZ := Lib.hid (show wr.ownsRow D 3 1 (.slice (some ⟨D, 0, none⟩) (lf + lg) (lf + lg)) (lf + lg) ((lstF (mulF m S P F G lg (z + 0)) (lf + lg)).map (.int .i64)) by rw [Nat.add_zero, ← hz]; exact OK.out)
      clear OK hx hz
      obtain ⟨wo, rfl⟩ : ∃ x, x = wr := ⟨_, rfl⟩
      go_wp2
      go_loopg [29] lg (fun g i wr => ∃ j : Nat, j ≤ lg ∧ lg ≤ j + g ∧ i = .int .i64 j ∧ wr.ownsRow D 3 1 (.slice (some ⟨D, 0, none⟩) (lf + lg) (lf + lg)) (lf + lg) ((lstF (mulF m S P F G lg (z + j)) (lf + lg)).map (.int .i64)) ∧ Below D W wr)
      case atStart => exact ⟨0, Nat.zero_le _, by omega, rfl, OZ.out, BK.out⟩
      case round =>
        obtain ⟨j, hj, hgj, rfl, hown, hb⟩ := hrel
        have OJ := Lib.hid hown
        have BJ := Lib.hid hb
        have hszj := hb.size
        clear hown hb
        by_cases hjl : j < lg
        · have hji : (j : Int) < (lg : Int) := by omega
          have hL : k + j < lf + lg := by omega
          have hti : (k : Int) + j < ((lf + lg : Nat) : Int) := by omega
          have htj : (k : Int) + j < (lf : Int) + lg := by omega
          have tkj : IntKind.i64.wrap ((k : Int) + j) = (k : Int) + j := IntWalk.i64_in _ (by omega)
          have tz : (0 : Int) ≤ (k : Int) + j := by omega
          have tn : ((k : Int) + j).toNat = k + j := by omega
          have GJ := TG.out wr BJ.out
          obtain ⟨bg, og, rfl, hbg⟩ := lstF_addr GJ (by omega)
          have gc := lstF_cell GJ hjl
          clear GJ
          have hgm := HG'.out j hjl
          have hcm := ML.out (z + j) (by have := MI.out; have := HZ.out; omega) (k + j)
          have hpp := HP.out x (G j) hfm hgm
          obtain ⟨y, hy⟩ : ∃ y, G j = y := ⟨_, rfl⟩
          obtain ⟨v, hv⟩ : ∃ v, mulF m S P F G lg (z + j) (k + j) = v := ⟨_, rfl⟩
          rw [hy] at gc hgm hpp
          rw [hv] at hcm
          have HN := Lib.hid (show putF (mulF m S P F G lg (z + j)) (k + j) (S (v * m + P (x * m + y))) = mulF m S P F G lg (z + (j + 1)) by
            rw [← hv, ← hy, ← HX.out, ← HZ.out]
            exact mul_put hjl)
          have hce := OJ.out.cellAt (k + j) (by omega)
          rw [lstV_get hL, hv] at hce
          clear hy hv
          go_wp2_with (fail)
          refine wp_region_makers 21 (fun _ => false) (fun _ _ _ => True) (fun _ _ => True) (fun _ => undef) probe (by kernel_rfl) (by kernel_rfl) (fun _ _ _ _ _ _ => trivial) (fun _ _ _ _ _ => trivial) (fun _ _ => trivial) ?_
          intro V hV vs _
          have cV : ∃ x, extC V x := ⟨V, extC_of (Below.refl _ _)⟩
          have BV := Lib.hid (BJ.out.trans (hV.mono (by omega)))
          have RV := Lib.hid (show ∀ u, RingAt (ext V u) m e b1 o1 la ca b2 o2 lb cb S P from fun u => TR.out _ (BV.out.trans ((ext_below V u).mono (by have := BV.out.size; omega))))
          have p0 := (T0.out _ BV.out).cell 0
          simp at p0
          have OV := Lib.hid (own_nextK OJ.out hV)
          have hcv := OV.out.cellAt (k + j) (by omega)
          rw [← OJ.out.cellAt (k + j) (by omega), hce] at hcv
          have HCE := Lib.hid hce
          clear hV gc hce fc
          simp only [List.take_succ_cons, List.take_zero, List.drop_succ_cons, List.drop_zero]
          refine wpV_quiet cV 21 0 _ _ (by decide) (by decide) ?_
          simp only [List.take_succ_cons, List.take_zero, List.drop_succ_cons, List.drop_zero]
          repeat (go_big_quiet_step (first
            | (go_at_call 78; with_reducible refine calls_ext (product_any x y m e b1 o1 la ca b2 o2 lb cb S P _ (RV.out _) hfm hgm))
            | (go_at_call 160; with_reducible refine calls_ext (sum_any v (P (x * m + y)) m e b1 o1 la ca b2 o2 lb cb S P _ (RV.out _) hcm hpp))))
          refine wpQuiet_nil ?_
          refine wpV_nil ?_
          intro w4 hb4 _ _
          have B4 := Lib.hid (BJ.out.trans (hb4.mono (by omega)))
          have O4 := Lib.hid (own_nextK OJ.out hb4)
          have hc4 := O4.out.cellAt (k + j) (by omega)
          rw [← OJ.out.cellAt (k + j) (by omega), HCE.out] at hc4
          have hf4 := O4.out.frozenAt (k + j)
          clear hcv hb4 p0
          go_wp2
          go_roundg (lg - (j + 1))
          case measure => omega
          case rel => exact ⟨j + 1, by omega, by omega, by go_num, by rw [← HN.out, ← lstV_set hL]; exact (O4.out.stored (k + j) _).1, B4.out.setCell (by show D ≤ D; exact Nat.le_refl _) _⟩
        · have hji : ¬ (j : Int) < (lg : Int) := by omega
          have HJ := Lib.hid (show z + j = (k + 1) * lg by rw [show j = lg by omega, ← HZ.out, Nat.succ_mul])
          go_wp2
          go_roundg (lf - (k + 1))
          case measure => omega
          case rel => exact ⟨k + 1, by omega, by omega, by go_num, by rw [← HJ.out]; exact OJ.out, BJ.out⟩
    · have hki : ¬ (k : Int) < (lf : Int) := by omega
      have hkk : k = lf := by omega
      have OL := Lib.hid (show wr.ownsRow D 3 1 (.slice (some ⟨D, 0, none⟩) (lf + lg) (lf + lg)) (lf + lg) ((lstF (mulF m S P F G lg (lf * lg)) (lf + lg)).map (.int .i64)) by rw [show lf * lg = k * lg by rw [hkk]]; exact OK.out)
      clear OK hkk
      have PV := Lib.hid (PolV.of_row OL.out (by omega))
      have p0 := (T0.out _ BK.out).cell 0
      have p1 := (T0.out _ BK.out).cell 1
      simp at p0 p1
      go_wp2_with (go_at_call 92; ((with_reducible refine (with_any D (lf + lg) _ _ _ _ (mulF m S P F G lg (lf * lg)) _ PV.out).mono ?_); rintro e5 w5 ⟨v5, rfl, hp5, hb5⟩; obtain ⟨E5, c5, rfl, hr5⟩ := hp5; have B5 := Lib.hid (BK.out.trans (hb5.mono (by omega))); have P5 := Lib.hid (show PolV D w5 (.slice E5 _ c5) _ _ from ⟨E5, c5, rfl, hr5⟩); clear hb5 hr5; have r3 := T3.out _ B5.out; have z0 := r3.cell 0; have z1 := r3.cell 1; have g0 := r3.frozen 0; have g1 := r3.frozen 1; have R3 := Lib.hid r3; simp at z0 z1; clear r3))
      refine bodyPost_ret (v := .agg #[.iface 25 (.agg #[.int .i64 m, .int .i64 e, .slice (some ⟨b1, o1, none⟩) la ca, .slice (some ⟨b2, o2, none⟩) lb cb]), .slice E5 (tlN (mulF m S P F G lg (lf * lg)) (lf + lg)) c5]) ?_ rfl ⟨_, rfl, ((P5.out.set2 (by have := HDS.out; omega) _ _).set2 (by have := HDS.out; omega) _ _).down (by have := HDS.out; omega), ((B0.out.trans (B5.out.mono (by have := HDS.out; omega))).setCell (by simp; omega) _).setCell (by simp; omega) _⟩
      exact results_cell_row Try.results56 _ _ (w.heap.size + 1 + 1) 61 _ (0, 0) _ rfl ((R3.out.set_ 0 _).set_ 1 _) Try.underlying61 rfl (by kernel_rfl)

theorem pmu_any (n o : Int) (A B F K : Option Addr) (la ca lb cb lf cf lg cg : Nat) (X Y Z V : List Int) (w : World) (hX : Ints w w.heap.size A la X) (hY : Ints w w.heap.size B lb Y) (hF : Ints w w.heap.size F lf Z) (hK : Ints w w.heap.size K lg V) (hla : la ≤ 9223372036854775807) (hlb : lb ≤ 9223372036854775807) (hlf : lf ≤ 9223372036854775807) (hlg : lg ≤ 9223372036854775807) (hca : la ≤ ca) (hcb : lb ≤ cb) :
    Calls Try.prog 16 #[.agg #[.int .i64 n, .int .i64 o, .slice A la ca, .slice B lb cb], .slice F lf cf, .slice K lg cg] w fun e' w' => ∃ v, e' = .returned (.tuple #[v, .bool (pmuB n o X Y Z V)]) ∧ SliceOut w.heap.size w' v (pmuL n o X Y Z V) ∧ Below w.heap.size w w' := by
  obtain ⟨W, hW⟩ : ∃ W, w.alloc (.cells #[.int .i64 n, .int .i64 o, .slice A la ca, .slice B lb cb] 25) = W := ⟨_, rfl⟩
  have b0 : Below w.heap.size w W := by subst hW; exact (Below.refl _ _).alloc (Nat.le_refl _) _
  have hZ := hF.1
  have hV := hK.1
  have HX := hX.next b0
  have HY := hY.next b0
  have EP := enters_of Try.func56 (by kernel_rfl) rfl
  have H := frp_any n o A B F K la ca lb cb lf cf lg cg 56 (mulK n X Y Z V) (mulG n X Y Z V) X Y Z V W HX HY (hF.next b0) (hK.next b0) hla hlb hlf hlg hca hcb EP (fun ht E1 c1 E2 c2 x hx i1 i2 => by
    obtain ⟨m, e, b1, o1, b2, o2, rfl, rfl, rfl, rfl, hr, _⟩ := valid_data (pol_data (two_data ht).1).1 (HX.next hx) (HY.next hx) hca hcb
    obtain ⟨f1, f2, f3, f4, f5, f6⟩ := two_facts ht hZ hV
    have hp := times_poly (tabOf Z) (tabOf V) E1 E2 lf lg c1 c2 25 (.agg #[.int .i64 m, .int .i64 e, .slice (some ⟨b1, o1, none⟩) la ca, .slice (some ⟨b2, o2, none⟩) lb cb]) m e b1 o1 la ca b2 o2 lb cb (tabOf X) (tabOf Y) x hr i1 i2 (by omega) (by omega) f3 f4
    unfold mulK mulG
    rw [hZ, hV]
    simpa using hp)
  have H := Lib.hid H
  have B0 := Lib.hid b0
  have HW := Lib.hid hW
  have sz := b0.size
  have hs0 : w.heap.size < W.heap.size := by rw [← hW]; simp
  obtain ⟨c0, c1, c2, c3, _⟩ := box4_new w (.int .i64 n) (.int .i64 o) (.slice A la ca) (.slice B lb cb) 25
  rw [hW] at c0 c1 c2 c3
  have HP : pmuL n o X Y Z V = if (twoB n o X Y Z V && decide (mulK n X Y Z V ≤ 8)) = true then lstF (mulG n X Y Z V) (mulK n X Y Z V) else [] := rfl
  have HQ : pmuB n o X Y Z V = (twoB n o X Y Z V && decide (mulK n X Y Z V ≤ 8)) := rfl
  rw [HP, HQ]
  obtain ⟨ZL, hZL⟩ : ∃ x, (if (twoB n o X Y Z V && decide (mulK n X Y Z V ≤ 8)) = true then lstF (mulG n X Y Z V) (mulK n X Y Z V) else []) = x := ⟨_, rfl⟩
  obtain ⟨bb, hbb⟩ : ∃ x, (twoB n o X Y Z V && decide (mulK n X Y Z V ≤ 8)) = x := ⟨_, rfl⟩
  rw [hZL, hbb] at H
  rw [hZL, hbb]
  clear hX hY hF hK b0 hW hZ hV HX HY EP HP HQ hZL hbb
  go_enter Try.func16, Try.ntmps16
  go_wp2_with (fail)
  rw [HW.out]
  refine H.out.mono ?_
  rintro e1 w1 ⟨v, rfl, ho, hb1⟩
  have B1 := Lib.hid (below_step B0.out hb1)
  have HO := Lib.hid (ho.down sz)
  clear ho hb1
  go_wp2
  go_ret2
  exact ⟨v, rfl, HO.out, B1.out⟩


section
variable {n o : Int} {X Y Z V : List Int}
theorem pmuL_no (h : pmuB n o X Y Z V = false) : pmuL n o X Y Z V = [] := if_neg (by rw [h]; simp)
theorem pmuL_yes (h : pmuB n o X Y Z V = true) : pmuL n o X Y Z V = lstF (mulG n X Y Z V) (mulK n X Y Z V) := if_pos h
end

end Go.Proofs.Ytlcpbdbdiahmjaa



/- The program's derivative; DerivePoly of both sides. -/
namespace Go.Proofs.Ytlcpbdbdiahmjaa
open Go.RowKit Go.Shelf
set_option maxRecDepth 100000

section
variable (p0 p1 : Value) (w : World)
end

section
variable {n o : Int} {X Y Z : List Int}
end

end Go.Proofs.Ytlcpbdbdiahmjaa

