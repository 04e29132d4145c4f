/- Texts of this seat in one: J1 J2 E5. -/
import Derived.Test.YtfpkijoamgohcaaMG
import Derived.Test.YtfpkijoamgohcaaMN

/- AssociatesOf of the program. -/
namespace Go.Proofs.Ytfpkijoamgohcaa
open Go.RowKit Go.Shelf
set_option maxRecDepth 100000
attribute [local go_sem] Oper.semAt_some

/-- The products of an element and all units. -/
noncomputable def assocN (m : Nat) (P : Nat → Nat) (e a : Nat) : List Nat := (finN (selTo m (unitB m P e) m)).map fun u => P (a * m + u)
noncomputable def assocL (n o : Int) (X Y : List Int) (a : Int) : List Int := @ite _ (validB n o X Y = true ∧ inB n a = true) (Classical.propDecidable _) (finI (selTo n.toNat (fun i => decide (i ∈ assocN n.toNat (tabOf Y) o.toNat a.toNat)) n.toNat)) []
theorem assocL_no {n o a : Int} {X Y : List Int} (h : ¬ (validB n o X Y = true ∧ inB n a = true)) : assocL n o X Y a = [] := @if_neg _ (Classical.propDecidable _) h _ _ _
theorem assocL_yes {m e a : Nat} {X Y : List Int} (h : validB m e X Y = true) (ha : inB m a = true) : assocL m e X Y a = finI (selTo m (fun i => decide (i ∈ assocN m (tabOf Y) e a)) m) := @if_pos _ (Classical.propDecidable _) ⟨h, ha⟩ _ _ _

theorem units_seq {Br Bp : Nat} (w0 : World) (m e b1 o1 la ca b2 o2 lb cb : Nat) (S P : Nat → Nat) (w : World) (hr : RingAt w m e b1 o1 la ca b2 o2 lb cb S P) (hr0 : RingAt w0 m e b1 o1 la ca b2 o2 lb cb S P) (hb : Below w0.heap.size w0 w) (h1 : Blk w Br 25 #[.int .i64 m, .int .i64 e, .slice (some ⟨b1, o1, none⟩) la ca, .slice (some ⟨b2, o2, none⟩) lb cb])
    (h2 : Blk w Bp 83 #[.func (.func (testF 0)) #[.agg #[.int .i64 m, .int .i64 e, .slice (some ⟨b1, o1, none⟩) la ca, .slice (some ⟨b2, o2, none⟩) lb cb]] #[]]) :
    SeqStopsK Fence.wide 2 Try.prog 149 #[.pointer (some ⟨Br, 0, none⟩), .pointer (some ⟨Bp, 0, none⟩)] (encF m) (KpA w0.heap.size Br Bp) (fun ys => ys = selTo m (kindB m P e 0) m) (fun pre => pre <+: selTo m (kindB m P e 0) m) m w :=
  where_stops 2 m Br Bp (testF 0) #[.agg #[.int .i64 m, .int .i64 e, .slice (some ⟨b1, o1, none⟩) la ca, .slice (some ⟨b2, o2, none⟩) lb cb]] (kindB m P e 0) (by decide) hr.hm' (KpA w0.heap.size Br Bp) (fun W => Below w0.heap.size w0 W ∧ Blk W Br 25 #[.int .i64 m, .int .i64 e, .slice (some ⟨b1, o1, none⟩) la ca, .slice (some ⟨b2, o2, none⟩) lb cb] ∧ Blk W Bp 83 #[.func (.func (testF 0)) #[.agg #[.int .i64 m, .int .i64 e, .slice (some ⟨b1, o1, none⟩) la ca, .slice (some ⟨b2, o2, none⟩) lb cb]] #[]]) (tests_enter (by decide))
    (fun W hW => hW.2.1.cell 0) (fun W hW => hW.2.2.cell 0) (fun W W' hW hb => ⟨hW.1.trans (hb.mono hW.1.size), hW.2.1.next hb, hW.2.2.next hb⟩) (fun W W' hW hk => ⟨hW.1.trans hk.1, hk.2.1.trans hW.2.1, hk.2.2.trans hW.2.2⟩)
    (fun a ha W hW => tests_call m e b1 o1 la ca b2 o2 lb cb S P W (hr0.next hW.1) (by decide) ha) w (fun W hW => ⟨hb.trans (hW.mono hb.size), h1.next hW, h2.next hW⟩)
/-- A row of the call's own lies in no block of marks. -/
theorem SliceOut.putObj {D l : Nat} {w : World} {v : Value} {Z : List Int} {o o' : Obj} (h : SliceOut D w v Z) (hl : w.heap[l]? = some o) (ho : ∀ cs t s, o ≠ .cells cs t s) : SliceOut D (w.putObj l o') v Z := by
  obtain ⟨A, n, c, e, h1, h2⟩ := h
  refine ⟨A, n, c, e, ⟨h1.1, fun hn => ?_⟩, h2⟩
  obtain ⟨g, off, eA, hD, hg, hc⟩ := h1.2 hn
  have hne : g ≠ l := by
    rintro rfl
    have := (hc 0 hn).1
    unfold World.cell? at this
    simp only [hl] at this
    cases o <;> simp at this
    exact ho _ _ _ rfl
  have hb : (w.putObj l o').heap[g]? = w.heap[g]? := World.putObj_heap_other hne
  refine ⟨g, off, eA, hD, by simpa [World.putObj] using hg, fun k hk => ?_⟩
  rw [World.cell?_of_block (a := ⟨g, off + k, none⟩) hb, World.frozen?_of_block (a := ⟨g, off + k, none⟩) hb]
  exact hc k hk

theorem memB_nil' : memB ([] : List Nat) = fun _ => false := funext fun i => by simp [memB]
theorem memB_snoc' {l : List Nat} {a : Nat} : (fun i => memB l i || decide (i = a)) = memB (l ++ [a]) := funext fun i => by simp [memB]

set_option maxHeartbeats 8000000 in
theorem assoc_any (n o : Int) (A B : Option Addr) (la ca lb cb : Nat) (X Y : List Int) (a : Int) (w : World) (hX : Ints w w.heap.size A la X) (hY : Ints w w.heap.size B lb Y) (hla : la ≤ 9223372036854775807) (hlb : lb ≤ 9223372036854775807) (hca : la ≤ ca) (hcb : lb ≤ cb) :
    Calls Try.prog 27 #[.agg #[.int .i64 n, .int .i64 o, .slice A la ca, .slice B lb cb], .int .i64 a] w fun e' w' => ∃ v, e' = .returned v ∧ SliceOut w.heap.size w' v (assocL n o X Y a) ∧ Below w.heap.size w w' := by
  obtain ⟨W, hW⟩ : ∃ W, (w.alloc (.cells #[.int .i64 n, .int .i64 o, .slice A la ca, .slice B lb cb] 25)).alloc (.cells #[.int .i64 a] 3) = W := ⟨_, rfl⟩
  have k0 : Blk W w.heap.size 25 #[.int .i64 n, .int .i64 o, .slice A la ca, .slice B lb cb] := by
    subst hW; exact (Blk.new w _ _).alloc _
  have k1 : Blk W (w.heap.size + 1) 3 #[.int .i64 a] := by
    subst hW
    have := Blk.new (w.alloc (.cells #[.int .i64 n, .int .i64 o, .slice A la ca, .slice B lb cb] 25)) 3 #[.int .i64 a]
    rw [World.size_alloc] at this
    exact this
  have b0 : Below w.heap.size w W := by
    subst hW; exact ((Below.refl _ _).alloc (Nat.le_refl _) _).alloc (by simp) _
  have hs0 : w.heap.size + 1 < W.heap.size := k1.lt
  have HX := Lib.hid (hX.next b0)
  have HY := Lib.hid (hY.next b0)
  have B0 := Lib.hid b0
  have HW := Lib.hid hW
  have K0 := Lib.hid k0
  have K1 := Lib.hid k1
  obtain ⟨c0, c1, c2, c3⟩ := blk4 k0
  have c4 := k1.cell 0
  simp at c4
  clear k0 k1 b0 hW
  cases hv : validB n o X Y
  · have hz := Lib.hid (assocL_no (n := n) (o := o) (X := X) (Y := Y) (a := a) (fun g => by have := g.1; rw [hv] at this; cases this))
    clear hX hY
    go_enter Try.func27, Try.ntmps27
    go_wp2_with (fail)
    rw [HW.out]
    go_wp2_with (go_at_call 47; refine (valid_any _ _ _ _ _ _ _ _ X Y _ HX.out HY.out hla hlb hca hcb).mono ?_; rintro e1 w1 ⟨rfl, hb1⟩)
    go_ret
    exact ⟨_, rfl, by rw [hz.out]; exact SliceOut.nil, below_step B0.out hb1⟩
  · cases ha : inB n a
    · have hz := Lib.hid (assocL_no (n := n) (o := o) (X := X) (Y := Y) (a := a) (fun g => by have := g.2; rw [ha] at this; cases this))
      clear hX hY
      go_enter Try.func27, Try.ntmps27
      go_wp2_with (fail)
      rw [HW.out]
      go_wp2_with (first
        | (go_at_call 47; refine (valid_any _ _ _ _ _ _ _ _ X Y _ HX.out HY.out hla hlb hca hcb).mono ?_; rintro e1 w1 ⟨rfl, hb1⟩; obtain ⟨d0, d1, d2, d3⟩ := blk4 (K0.out.next hb1); have d4 := (K1.out.next hb1).cell 0; simp at d4)
        | (go_at_call 93; (with_reducible refine (has_any _ _ a _ _ _ _ _ _ _).mono ?_); rintro e2 w2 ⟨rfl, hb2⟩))
      go_ret
      exact ⟨_, rfl, by rw [hz.out]; exact SliceOut.nil, below_step (below_step B0.out hb1) hb2⟩
    · obtain ⟨m, e, b1, o1, b2, o2, rfl, rfl, rfl, rfl, hr, _, _, _, _, _⟩ := valid_data hv hX hY hca hcb
      have ha' := of_decide_eq_true ha
      obtain ⟨a, rfl⟩ := Int.eq_ofNat_of_zero_le ha'.1
      have la' : a < m := by omega
      have hz := Lib.hid (assocL_yes hv ha)
      have hm' := hr.hm'
      have HR0 := Lib.hid hr
      clear hX hY hr
      refine (callsIn_wide (n := 3)).1 ?_
      refine callsIn_of_wp_marks Try.func27 rfl trivial ?_ rfl
      simp only [Try.ntmps27, List.size_toArray, List.length_cons, List.length_nil, Nat.reduceAdd, Nat.reduceSub, Array.replicate_succ, Array.replicate_zero, List.push_toArray, List.append_toArray, List.nil_append, List.cons_append]
      gi_wp2_with (fail)
      rw [HW.out]
      gi_wp2_with (first
        | (refine ⟨trivial, ?_⟩; gi_at_call 47; refine (callsIn_wide.2 (valid_any _ _ _ _ _ _ _ _ X Y _ HX.out HY.out hla hlb hca hcb)).mono ?_; rintro e1 w1 ⟨rfl, hb1⟩; obtain ⟨d0, d1, d2, d3⟩ := blk4 (K0.out.next hb1); have d4 := (K1.out.next hb1).cell 0; simp at d4)
        | (refine ⟨trivial, ?_⟩; gi_at_call 93; refine (callsIn_wide.2 (has_any _ _ a _ _ _ _ _ _ _)).mono ?_; rintro e2 w2 ⟨rfl, hb2⟩; obtain ⟨f0, f1, f2, f3⟩ := blk4 ((K0.out.next hb1).next hb2); have f4 := ((K1.out.next hb1).next hb2).cell 0; simp at f4; obtain ⟨j0, j1, j2, j3⟩ := blk4 (((K0.out.next hb1).next hb2).alloc (.cells #[.bool false, .bool false, .bool false, .bool false, .bool false, .bool false, .bool false, .bool false, .bool false, .bool false, .bool false, .bool false, .bool false, .bool false, .bool false, .bool false] 77))))
      rw [← setP_nil]
      have B2 := Lib.hid (below_step (below_step B0.out hb1) hb2)
      obtain ⟨W3, hW3⟩ : ∃ W3, w2.alloc (.cells (setP fun _ => false) 77) = W3 := ⟨_, rfl⟩
      have g0 : Blk W3 w2.heap.size 77 (setP fun _ => false) := by subst hW3; exact Blk.new w2 _ _
      have b3 : Below w2.heap.size w2 W3 := by subst hW3; exact (Below.refl _ _).alloc (Nat.le_refl _) _
      rw [hW3]
      have K0 := Lib.hid (((K0.out.next hb1).next hb2).next b3)
      have K1 := Lib.hid (((K1.out.next hb1).next hb2).next b3)
      have B3 := Lib.hid (below_step B2.out b3)
      have s1 := hb1.size
      have s2 := hb2.size
      have s3 := g0.lt
      have G0 := Lib.hid g0
      clear hW3 b3 g0 hb1 hb2 j0 j1 j2 j3 c0 c1 c2 c3 c4 d0 d1 d2 d3 d4 f0 f1 f2 f3 f4
      refine ⟨trivial, ?_⟩
      refine (callsIn_wide.2 (ofKind_any 0 m e _ _ la ca lb cb W3 (by decide))).mono ?_
      rintro e4 w4 ⟨Br, Bp, rfl, hr1, hr2, hB1, hB2, hb4⟩
      have SQ := Lib.hid (units_seq w m e b1 o1 la ca b2 o2 lb cb (tabOf X) (tabOf Y) w4 (HR0.out.next (below_step B3.out hb4)) HR0.out (below_step B3.out hb4) hB1 hB2)
      have K0 := Lib.hid (K0.out.next hb4)
      have K1 := Lib.hid (K1.out.next hb4)
      have G0 := Lib.hid (G0.out.next hb4)
      have B4 := Lib.hid (below_step B3.out hb4)
      have s4 := hb4.size
      have r1 := hB1.lt
      have r2 := hB2.lt
      have HB1 := Lib.hid hB1
      have HB2 := Lib.hid hB2
      clear hb4 hB1 hB2
      gi_wp2
      refine wpIn_rangeFunc_ownG rfl (by omega) (gf := 149) (lb := #[.pointer (some ⟨Br, 0, none⟩), .pointer (some ⟨Bp, 0, none⟩)]) rfl trivial (enters_of Try.func149 (by kernel_rfl) rfl) SQ.out KpA_t (KpA_b (by omega) r1 r2) (Below.refl _ _) (fun _ => rfl)
        (fun pre V => (Blk V w2.heap.size 77 (setP (memB ((finN pre).map fun u => tabOf Y (a * m + u)))) ∧ Blk V w.heap.size 25 #[.int .i64 m, .int .i64 e, .slice (some ⟨b1, o1, none⟩) la ca, .slice (some ⟨b2, o2, none⟩) lb cb] ∧ Blk V (w.heap.size + 1) 3 #[.int .i64 a] ∧ Blk V Br 25 #[.int .i64 m, .int .i64 e, .slice (some ⟨b1, o1, none⟩) la ca, .slice (some ⟨b2, o2, none⟩) lb cb] ∧ Blk V Bp 83 #[.func (.func (testF 0)) #[.agg #[.int .i64 m, .int .i64 e, .slice (some ⟨b1, o1, none⟩) la ca, .slice (some ⟨b2, o2, none⟩) lb cb]] #[]]) ∧ Below w.heap.size w V)
        (fun _ _ _ => False)
        (OwnFrom.and (OwnFrom.and (ownFrom_blk _ _ _ _) (OwnFrom.and (ownFrom_blk _ _ _ (fun _ => _)) (OwnFrom.and (ownFrom_blk _ _ _ (fun _ => _)) (OwnFrom.and (ownFrom_blk _ _ _ (fun _ => _)) (ownFrom_blk _ _ _ (fun _ => _)))))) (ownFrom_below (Nat.le_refl _) (by omega)))
        (fun _ _ _ _ _ hs _ _ => hs)
        ⟨⟨by rw [show ((finN ([] : List (Fin m))).map fun u => tabOf Y (a * m + u)) = [] from rfl, memB_nil']; exact G0.out, K0.out, K1.out, HB1.out, HB2.out⟩, B4.out⟩
        (fun x => { tmps := #[.agg #[.int .i64 m, .int .i64 e, .slice (some ⟨b1, o1, none⟩) la ca, .slice (some ⟨b2, o2, none⟩) lb cb], .int .i64 a, .pointer (some ⟨w.heap.size, 0, none⟩), .pointer (some ⟨w.heap.size + 1, 0, none⟩), .slice none 0 0, .pointer (some ⟨w2.heap.size, 0, none⟩), .int .i64 (x.1 : Int), .agg #[.int .i64 m, .int .i64 e, .slice (some ⟨b1, o1, none⟩) la ca, .slice (some ⟨b2, o2, none⟩) lb cb], .bool true, .bool false, .bool false, .agg #[.int .i64 m, .int .i64 e, .slice (some ⟨b1, o1, none⟩) la ca, .slice (some ⟨b2, o2, none⟩) lb cb], .int .i64 a, .bool true, .bool false, .bool false, .agg #[.int .i64 m, .int .i64 e, .slice (some ⟨b1, o1, none⟩) la ca, .slice (some ⟨b2, o2, none⟩) lb cb], .func (.func 149) #[] #[.pointer (some ⟨Br, 0, none⟩), .pointer (some ⟨Bp, 0, none⟩)], .int .i64 (x.1 : Int), undef, undef, undef, undef, undef, undef, undef, undef], defers := [] }) ?assign ?body ?done ?stop
      case assign =>
        intro l x V K hK
        gi_wp2
        exact hK
      case body =>
        rintro l pre x V ⟨⟨h1, h2, h3, h4, h5⟩, hB⟩ hlt
        obtain ⟨c0, c1, c2, c3⟩ := blk4 h2
        have c4 := h3.cell 0
        simp at c4
        have RV := Lib.hid (HR0.out.next hB)
        have H1 := Lib.hid h1
        have H2 := Lib.hid h2
        have H3 := Lib.hid h3
        have H4 := Lib.hid h4
        have H5 := Lib.hid h5
        have HB := Lib.hid hB
        have hsV := hB.size
        have hx := x.2
        have ht := RV.out.tp.lt la' hx
        clear h1 h2 h3 h4 h5 hB
        gi_wp2
        refine ⟨trivial, ?_⟩
        refine (CallsIn.inRound l (callsIn_wide.2 (product_any a x.1 m e b1 o1 la ca b2 o2 lb cb (tabOf X) (tabOf Y) V RV.out la' hx))).mono ?_
        rintro e1 V1 ⟨rfl, hb1⟩
        have Q1 := Lib.hid hb1
        have P1 := Lib.hid (H1.out.next hb1)
        clear hb1
        gi_wp2_with (fail)
        refine ⟨trivial, ?_⟩
        refine (CallsIn.inRound l (callsIn_wide.2 (putP_any w2.heap.size (tabOf Y (a * m + x.1)) _ V1 P1.out (by omega)))).mono ?_
        rintro e2 V2 ⟨⟨v2, rfl⟩, rfl⟩
        have P2 := Lib.hid (P1.out.put (a := tabOf Y (a * m + x.1)))
        have q1 := Q1.out
        have p1 : w2.heap.size ≠ Br := by omega
        have p2 : w2.heap.size ≠ Bp := by omega
        have G2 := Lib.hid ((H2.out.next q1).far (p := ⟨w2.heap.size, tabOf Y (a * m + x.1), none⟩) (by show w.heap.size ≠ w2.heap.size; omega) (.bool true))
        have G3 := Lib.hid ((H3.out.next q1).far (p := ⟨w2.heap.size, tabOf Y (a * m + x.1), none⟩) (by show w.heap.size + 1 ≠ w2.heap.size; omega) (.bool true))
        have G4 := Lib.hid ((H4.out.next q1).far (p := ⟨w2.heap.size, tabOf Y (a * m + x.1), none⟩) (Ne.symm p1) (.bool true))
        have G5 := Lib.hid ((H5.out.next q1).far (p := ⟨w2.heap.size, tabOf Y (a * m + x.1), none⟩) (Ne.symm p2) (.bool true))
        have GB := Lib.hid ((below_step HB.out q1).setCell (p := ⟨w2.heap.size, tabOf Y (a * m + x.1), none⟩) (by show w.heap.size ≤ w2.heap.size; omega) (.bool true))
        have GK := Lib.hid (((KeepsOthers.of_grownBy (Go.Proofs.Ytfpkijoamgohcaa.Below.grown_ q1) (fun j o ej _ => by cases ej)).trans (KeepsOthers.setCell V1 ⟨w2.heap.size, tabOf Y (a * m + x.1), none⟩ (.bool true))).from w4.heap.size)
        have GL := Lib.hid ((q1.mono hsV).setCell (p := ⟨w2.heap.size, tabOf Y (a * m + x.1), none⟩) (by show w.heap.size ≤ w2.heap.size; omega) (.bool true))
        have GR := Lib.hid ((Below.heap_setCell V1 ⟨w2.heap.size, tabOf Y (a * m + x.1), none⟩ (.bool true) Br (Ne.symm p1)).trans (q1.block Br H4.out.lt))
        have GP := Lib.hid ((Below.heap_setCell V1 ⟨w2.heap.size, tabOf Y (a * m + x.1), none⟩ (.bool true) Bp (Ne.symm p2)).trans (q1.block Bp H5.out.lt))
        clear p1 p2
        gi_wp2
        refine ⟨GK.out, ⟨GL.out, GR.out, GP.out⟩, ⟨?_, G2.out, G3.out, G4.out, G5.out⟩, GB.out⟩
        rw [show finN (pre ++ [x]) = finN pre ++ [x.1] by simp [finN], List.map_append, List.map_singleton, ← memB_snoc']
        exact P2.out
      case done =>
        rintro D ys V hD rfl ⟨⟨h1, h2, h3, _, _⟩, hB⟩ hK
        obtain ⟨c0, c1, c2, c3⟩ := blk4 h2
        obtain ⟨p, hp⟩ : ∃ p, memB ((finN (selTo m (kindB m (tabOf Y) e 0) m)).map fun u => tabOf Y (a * m + u)) = p := ⟨_, rfl⟩
        rw [hp] at h1
        have hi := set_info (setP_size (p := p))
        have HP := Lib.hid hp
        have H1 := Lib.hid h1
        have HB := Lib.hid hB
        have HK := Lib.hid hK
        have hDV := (Array.getElem?_eq_some_iff.1 hK).1
        clear h1 h2 h3 hB hK hp
        gi_wp2_with (first
          | (refine wpListIn_load_rowW rfl 77 (.tmp 5) rfl w2.heap.size rfl _ (setP p) (0, 0) _ H1.out Try.underlying77 rfl hi ?_)
          | (refine ⟨trivial, ?_⟩; gi_at_call 67; refine (callsIn_wide.2 (elements_any p m e _ _ la ca lb cb V hm')).mono ?_; rintro e6 V6 ⟨v, rfl, ho, hb6⟩; have Q6 := Lib.hid hb6; have O6 := Lib.hid ho; clear hb6 ho))
        have hK2 : V6.heap[D]? = some (.deferred (some [])) := (Q6.out.block D hDV).trans HK.out
        refine ⟨by simp, .inl ⟨_, _, rfl, run_takeDeferred hK2, ?_⟩⟩
        refine ⟨_, results_tmp rfl _ _ _, v, rfl, ?_, (below_step HB.out Q6.out).trans (belowK_b (w := w4) (by omega) V6 D _ _ (by omega) hK2 rfl rfl)⟩
        rw [hz.out]
        rw [show finI (selTo m (fun i => decide (i ∈ assocN m (tabOf Y) e a)) m) = lstP m p by rw [← HP.out]; rfl]
        exact (SliceOut.putObj O6.out hK2 (fun _ _ _ h => by cases h)).down (by have := HB.out.size; omega)
      case stop =>
        rintro D c pre W _ _ h _
        exact h.elim

end Go.Proofs.Ytfpkijoamgohcaa


/- AssociatesOf of the reading side. -/
namespace Go.Proofs.Ytfpkijoamgohcaa
open Go.RowKit
set_option maxRecDepth 100000

set_option maxHeartbeats 8000000 in
theorem sassoc_any (n o : Int) (A B : Option Addr) (la ca lb cb : Nat) (X Y : List Int) (a : Int) (w : World) (hX : Ints w w.heap.size A la X) (hY : Ints w w.heap.size B lb Y) (hla : la ≤ 9223372036854775807) (hlb : lb ≤ 9223372036854775807) (hca : la ≤ ca) (hcb : lb ≤ cb) :
    Calls Try.prog 28 #[.agg #[.int .i64 n, .int .i64 o, .slice A la ca, .slice B lb cb], .int .i64 a] w fun e' w' => ∃ v, e' = .returned v ∧ SliceOut w.heap.size w' v (assocL n o X Y a) ∧ Below w.heap.size w w' := by
  have HH := Lib.hid (show wrap64 (n - 1) = hiOf n from rfl)
  obtain ⟨W, hW⟩ : ∃ W, ((w.alloc (.cells #[.int .i64 n, .int .i64 o, .slice A la ca, .slice B lb cb] 25)).alloc (.cells (setA []) 39)).alloc (.cells #[.int .i64 a] 3) = W := ⟨_, rfl⟩
  have k0 : Blk W w.heap.size 25 #[.int .i64 n, .int .i64 o, .slice A la ca, .slice B lb cb] := by
    subst hW; exact ((Blk.new w _ _).alloc _).alloc _
  have k1 : Blk W (w.heap.size + 1) 39 (setA []) := by
    subst hW
    have := Blk.new (w.alloc (.cells #[.int .i64 n, .int .i64 o, .slice A la ca, .slice B lb cb] 25)) 39 (setA [])
    rw [World.size_alloc] at this
    exact this.alloc _
  have hE : Ints W (w.heap.size + 3) (some ⟨w.heap.size + 2, 0, none⟩) 1 [a] := by
    subst hW
    have := ints_one (w := (w.alloc (.cells #[.int .i64 n, .int .i64 o, .slice A la ca, .slice B lb cb] 25)).alloc (.cells (setA []) 39)) (v := a) (T := 3)
    simpa using this
  have b0 : Below w.heap.size w W := by
    subst hW; exact (((Below.refl _ _).alloc (Nat.le_refl _) _).alloc (by simp) _).alloc (by simp; omega) _
  have hs0 : w.heap.size + 1 < W.heap.size := k1.lt
  have HX := Lib.hid (hX.next b0)
  have HY := Lib.hid (hY.next b0)
  have B0 := Lib.hid b0
  rw [setA_nil] at hW
  have HW := Lib.hid hW
  have K0 := Lib.hid k0
  have K1 := Lib.hid k1
  have HE := Lib.hid hE
  obtain ⟨c0, c1, c2, c3⟩ := blk4 k0
  clear k0 k1 b0 hW hE
  cases he : elB (hiOf n) [a]
  · have hz := Lib.hid (assocL_no (n := n) (o := o) (X := X) (Y := Y) (a := a) (fun g => by have h1 := g.1; have h2 := g.2; simp [hi_valid h1, elB_one] at he; simp [he] at h2))
    clear hX hY
    go_enter Try.func28, Try.ntmps28
    go_wp2_with (fail)
    rw [HW.out]
    go_wp2_with (go_at_call 87; ((with_reducible refine (l1Elements_any _ _ _ _ _ [a] _ _ HH.out HE.out (by omega)).mono ?_); rintro e51 w51 ⟨rfl, rfl⟩))
    go_ret
    exact ⟨_, rfl, by rw [hz.out]; exact SliceOut.of_row (n := 0) (own_lit_K [] B0.out.size (by unfold maxLen; simp)) rfl (by omega), B0.out.alloc B0.out.size _⟩
  · cases hv : validB n o X Y
    · have hz := Lib.hid (assocL_no (n := n) (o := o) (X := X) (Y := Y) (a := a) (fun g => by have := g.1; rw [hv] at this; cases this))
      clear hX hY
      go_enter Try.func28, Try.ntmps28
      go_wp2_with (fail)
      rw [HW.out]
      go_wp2_with (first
        | (go_at_call 87; ((with_reducible refine (l1Elements_any _ _ _ _ _ [a] _ _ HH.out HE.out (by omega)).mono ?_); rintro e51 w51 ⟨rfl, rfl⟩))
        | (go_at_call 88; ((with_reducible refine (specValid_any _ _ _ _ _ _ _ _ X Y _ HX.out HY.out hla hlb hca hcb).mono ?_); rintro e1 w1 ⟨rfl, hb1⟩; have B1 := Lib.hid (below_step B0.out hb1); clear hb1)))
      go_ret
      exact ⟨_, rfl, by rw [hz.out]; exact SliceOut.of_row (n := 0) (own_lit_K [] B1.out.size (by unfold maxLen; simp)) rfl (by omega), B1.out.alloc B1.out.size _⟩
    · have ha : inB n a = true := by have h9 := he; rw [hi_valid hv, elB_one] at h9; exact h9
      obtain ⟨m, e, b1, o1, b2, o2, rfl, rfl, rfl, rfl, hr, _, _, _, _, _⟩ := valid_data hv hX hY hca hcb
      have ha' := of_decide_eq_true ha
      obtain ⟨a, rfl⟩ := Int.eq_ofNat_of_zero_le ha'.1
      have la' : a < m := by omega
      have hz := Lib.hid (assocL_yes hv ha)
      have hkl := Lib.hid (kindsL_yes (k := 0) hv)
      have hm' := hr.hm'
      have HR0 := Lib.hid hr
      clear hr
      have HX0 := Lib.hid hX
      have HY0 := Lib.hid hY
      clear hX hY
      go_enter Try.func28, Try.ntmps28
      go_wp2_with (fail)
      rw [HW.out]
      go_wp2_with (first
        | (go_at_call 87; ((with_reducible refine (l1Elements_any _ _ _ _ _ [(a : Int)] _ _ HH.out HE.out (by omega)).mono ?_); rintro e51 w51 ⟨rfl, rfl⟩))
        | (go_at_call 88; ((with_reducible refine (specValid_any _ _ _ _ _ _ _ _ X Y _ HX.out HY.out hla hlb hca hcb).mono ?_); rintro e1 w1 ⟨rfl, hb1⟩; have B1 := Lib.hid (below_step B0.out hb1); have K01 := Lib.hid (K0.out.next hb1); have K11 := Lib.hid (K1.out.next hb1); have s1 := hb1.size; obtain ⟨d0, d1, d2, d3⟩ := blk4 K01.out; clear hb1))
        | (go_at_call 96; refine (skind0_any _ _ _ _ _ _ _ _ X Y _ (HX0.out.next B1.out) (HY0.out.next B1.out) hla hlb hca hcb).mono ?_; rintro e2 w2 ⟨v2, rfl, ⟨A5, l5, c5, rfl, hA5, hc5, hl5⟩, hb2⟩; have B2 := Lib.hid (below_step B1.out hb2); have K02 := Lib.hid (K01.out.next hb2); have K12 := Lib.hid (K11.out.next hb2); have s2 := hb2.size; have IA := Lib.hid hA5; clear hb2 hA5))
      obtain ⟨L, hL⟩ : ∃ L, selTo m (kindB m (tabOf Y) e 0) m = L := ⟨_, rfl⟩
      have HL := Lib.hid hL
      have el5 : l5 = L.length := by rw [← IA.out.1, hkl.out, finI_len, hL]
      have IA := Lib.hid (show Own w2 w1.heap.size A5 l5 (finI L) by have := IA.out; rw [hkl.out, hL] at this; exact this)
      have l16 : l5 ≤ 16 := by rw [el5, ← hL]; exact Nat.le_trans (selTo_len m) hm'
      have EL := Lib.hid el5
      clear hL el5
      go_loopg [23] 16 (fun g vi wr => ∃ k : Nat, k ≤ l5 ∧ 16 ≤ k + g ∧ vi = .int .i64 k ∧ Blk wr (w.heap.size + 1) 39 (setA (((finN L).take k).map fun u => tabOf Y (a * m + u))) ∧ Blk wr w.heap.size 25 #[.int .i64 m, .int .i64 e, .slice (some ⟨b1, o1, none⟩) la ca, .slice (some ⟨b2, o2, none⟩) lb cb] ∧ Own wr w1.heap.size A5 l5 (finI L) ∧ Below w.heap.size w wr)
      case atStart => exact ⟨0, Nat.zero_le _, by omega, rfl, K12.out, K02.out, IA.out, B2.out⟩
      case round =>
        obtain ⟨k, hk, hg, rfl, h1, h2, h3, h4⟩ := hrel
        have H1 := Lib.hid h1
        have H2 := Lib.hid h2
        have H3 := Lib.hid h3
        have H4 := Lib.hid h4
        obtain ⟨f0, f1, f2, f3⟩ := blk4 h2
        have RV := Lib.hid (HR0.out.next h4)
        have hsz := h4.size
        clear h1 h2 h3 h4
        by_cases hlt : k < l5
        · obtain ⟨u, hu, hu1, hu2⟩ := finI_get (l := L) (k := k) (by have := EL.out; omega)
          obtain ⟨bb, off, rfl, hbb, hck⟩ := H3.out.ints.at_ hlt
          rw [hu1] at hck
          have ht := RV.out.tp.lt la' hu
          have HU := Lib.hid hu2
          clear hu1 hu2
          go_wp2_with (fail)
          refine (l1Mul_any a u m e b1 o1 la ca b2 o2 lb cb (tabOf X) (tabOf Y) _ RV.out la' hu).mono ?_
          rintro e3 w3 ⟨rfl, hb3⟩
          have Q3 := Lib.hid hb3
          have hc := ((H1.out.next hb3).cell (tabOf Y (a * m + u))).trans (setA_get (by omega))
          have hf := (H1.out.next hb3).frozen (tabOf Y (a * m + u))
          have t0 : (0 : Int) ≤ (tabOf Y (a * m + u) : Int) := by omega
          have t1 : (tabOf Y (a * m + u) : Int) < 16 := by omega
          clear hb3
          go_wp2
          go_roundg (16 - (k + 1))
          case measure => omega
          case rel =>
            refine ⟨k + 1, by omega, by omega, by go_num, ?_, (H2.out.next Q3.out).far (by show w.heap.size ≠ w.heap.size + 1; omega) _, (H3.out.next Q3.out).farC (by show w.heap.size + 1 < w1.heap.size; omega) _, (below_step H4.out Q3.out).setCell (p := ⟨w.heap.size + 1, _, none⟩) (Nat.le_succ _) _⟩
            have := (H1.out.next Q3.out).set_ (tabOf Y (a * m + u)) (.bool true)
            rw [setA_set] at this
            rw [HU.out, List.map_append]
            exact this
        · have hkl2 : k = l5 := by omega
          have e0 : (finN L).take k = finN L := List.take_of_length_le (by have := EL.out; simp [finN]; omega)
          have hb1 := H1.out
          rw [e0] at hb1
          obtain ⟨S, hS⟩ : ∃ S, setA ((finN L).map fun u => tabOf Y (a * m + u)) = S := ⟨_, rfl⟩
          rw [hS] at hb1
          have HS := Lib.hid hS
          have hS1 : S.size = 16 := by rw [← hS, setA_size]
          have hiS : (Try.prog.info? 39).map (·.size) = some S.size := by rw [hS1]; kernel_rfl
          clear hS e0
          go_wp2_with (first
            | (refine wpList_load_row rfl 39 (.tmp 5) rfl (w.heap.size + 1) rfl _ S (0, 0) _ hb1 Try.underlying39 rfl hiS ?_)
            | (go_at_call 71; refine (l3Set_any _ S _ HS.out).mono ?_; rintro e4 w4 ⟨v4, rfl, ho4, hb4⟩))
          go_ret
          refine ⟨_, rfl, ?_, below_step H4.out hb4⟩
          rw [hz.out]
          rw [sel_16 hm' (fun i hi => by
            rw [decide_eq_false_iff_not, List.mem_map]
            rintro ⟨u, hu, rfl⟩
            simp only [finN, List.mem_map] at hu
            obtain ⟨x, _, rfl⟩ := hu
            exact absurd (RV.out.tp.lt la' x.2) (Nat.not_lt.2 hi))] at ho4
          rw [← HL.out] at ho4
          exact ho4.down hsz

end Go.Proofs.Ytfpkijoamgohcaa


/- Plain facts: lists counted by what a function makes of them; associates; the number of idempotents. No program in sight. -/
namespace Go.Proofs.Ytfpkijoamgohcaa
open Go.RowKit

/-- A list is as long as the list of values times the number of elements of each value. -/
theorem fibers {α β : Type} [DecidableEq β] {c : Nat} (g : α → β) : ∀ (K : List β) (L : List α), K.Nodup → (∀ x ∈ L, g x ∈ K) → (∀ k ∈ K, (L.filter fun x => decide (g x = k)).length = c) → L.length = c * K.length
  | [], L, _, h, _ => by
    cases L with
    | nil => rfl
    | cons x L => exact absurd (h x (by simp)) (by simp)
  | k :: K, L, hK, h, hf => by
    have hk := List.nodup_cons.1 hK
    have e1 : L.length = (L.filter fun x => decide (g x = k)).length + (L.filter fun x => !decide (g x = k)).length := by
      rw [List.length_eq_countP_add_countP (fun x => decide (g x = k)), List.countP_eq_length_filter, List.countP_eq_length_filter]
      congr 3
      funext y
      simp
    have e2 := fibers (c := c) g K (L.filter fun x => !decide (g x = k)) hk.2 (fun x hx => by
      rw [List.mem_filter] at hx
      rcases List.mem_cons.1 (h x hx.1) with h1 | h1
      · simp [h1] at hx
      · exact h1) (fun k' hk' => by
      rw [List.filter_filter, ← hf k' (List.mem_cons_of_mem _ hk')]
      congr 1
      apply List.filter_congr
      intro x _
      have hne : k' ≠ k := fun e => hk.1 (e ▸ hk')
      by_cases h1 : g x = k'
      · simp [h1, hne]
      · simp [h1])
    rw [e1, hf k (by simp), e2, List.length_cons, Nat.mul_succ]
    omega
theorem nodup_map_inj {α β : Type} {f : α → β} {L : List α} (hn : L.Nodup) (h : ∀ x ∈ L, ∀ y ∈ L, f x = f y → x = y) : (L.map f).Nodup := by
  rw [List.nodup_iff_pairwise_ne, List.pairwise_map]
  refine List.Pairwise.imp_of_mem ?_ (List.nodup_iff_pairwise_ne.1 hn)
  intro i j hi hj hne e
  exact hne (h i hi j hj e)

section
variable {m e : Nat} {S P : Nat → Nat}
theorem assoc_mem {a b : Nat} : b ∈ assocN m P e a ↔ ∃ u, u < m ∧ UnitAt m P e u ∧ P (a * m + u) = b := by
  unfold assocN
  rw [List.mem_map]
  constructor
  · rintro ⟨u, hu, rfl⟩
    rw [selTo_mem m (Nat.le_refl _)] at hu
    exact ⟨u, hu.1, unitB_iff.1 hu.2, rfl⟩
  · rintro ⟨u, h1, h2, rfl⟩
    exact ⟨u, (selTo_mem m (Nat.le_refl _)).2 ⟨h1, unitB_iff.2 h2⟩, rfl⟩
theorem RTab.assoc_self (R : RTab m S P e) {a : Nat} (ha : a < m) : a ∈ assocN m P e a := assoc_mem.2 ⟨e, R.he, ⟨e, R.he, R.p.zero R.he⟩, R.p.zero ha⟩
theorem RTab.assoc_lt (R : RTab m S P e) {a b : Nat} (ha : a < m) (h : b ∈ assocN m P e a) : b < m := by
  obtain ⟨u, h1, _, rfl⟩ := assoc_mem.1 h
  exact R.pc ha h1
theorem RTab.assoc_symm (R : RTab m S P e) {a b : Nat} (ha : a < m) (h : b ∈ assocN m P e a) : a ∈ assocN m P e b := by
  obtain ⟨u, h1, ⟨c, hc, h2⟩, rfl⟩ := assoc_mem.1 h
  refine assoc_mem.2 ⟨c, hc, ⟨u, h1, by rw [R.p.comm hc h1]; exact h2⟩, ?_⟩
  rw [R.p.assoc ha h1 hc, h2, R.p.zero ha]
theorem RTab.assoc_trans (R : RTab m S P e) {a b c : Nat} (ha : a < m) (h : b ∈ assocN m P e a) (h' : c ∈ assocN m P e b) : c ∈ assocN m P e a := by
  obtain ⟨u, h1, h2, rfl⟩ := assoc_mem.1 h
  obtain ⟨v, h3, h4, rfl⟩ := assoc_mem.1 h'
  exact assoc_mem.2 ⟨P (u * m + v), R.pc h1 h3, R.unit_mul h1 h3 h2 h4, (R.p.assoc ha h1 h3).symm⟩
theorem RTab.assoc_same (R : RTab m S P e) {a b : Nat} (ha : a < m) (h : b ∈ assocN m P e a) (i : Nat) : i ∈ assocN m P e b ↔ i ∈ assocN m P e a :=
  ⟨R.assoc_trans ha h, R.assoc_trans (R.assoc_lt ha h) (R.assoc_symm ha h)⟩
theorem RTab.assoc_seq (R : RTab m S P e) {a b : Nat} (ha : a < m) (h : b ∈ assocN m P e a) (k : Nat) : seqT m S b k = 0 ↔ seqT m S a k = 0 := by
  obtain ⟨u, h1, h2, rfl⟩ := assoc_mem.1 h
  rw [← R.seq_mul h1 ha k]
  have hz : P (0 * m + u) = 0 := congrArg Fin.val (R.T0 ⟨u, h1⟩)
  constructor
  · intro h3
    exact unit_inj R.p h2 h1 (R.seq_lt ha k) R.hm (by rw [h3, hz])
  · intro h3
    rw [h3, hz]
theorem RTab.assoc_ord (R : RTab m S P e) {a b : Nat} (ha : a < m) (h : b ∈ assocN m P e a) : ordN m S b = ordN m S a := by
  have h1 := R.ord ha
  have h2 := R.ord (R.assoc_lt ha h)
  rcases Nat.lt_trichotomy (ordN m S b) (ordN m S a) with hl | hl | hl
  · exact absurd ((R.assoc_seq ha h _).1 h2.2.2.1) (h1.2.2.2 _ h2.1 hl)
  · exact hl
  · exact absurd ((R.assoc_seq ha h _).2 h1.2.2.1) (h2.2.2.2 _ h1.1 hl)
/-- The number of associates divides that of the units. -/
theorem RTab.assoc_count (R : RTab m S P e) {a : Nat} (ha : a < m) : (selTo m (fun i => decide (i ∈ assocN m P e a)) m).length ∣ (selTo m (kindB m P e 0) m).length := by
  have hu : ∀ u : Fin m, u ∈ selTo m (kindB m P e 0) m ↔ UnitAt m P e u.1 := fun u => by
    rw [selTo_in m (Nat.le_refl _)]
    exact ⟨fun h => unitB_iff.1 h.2, fun h => ⟨u.2, unitB_iff.2 h⟩⟩
  have hb : ∀ b : Fin m, b ∈ selTo m (fun i => decide (i ∈ assocN m P e a)) m ↔ b.1 ∈ assocN m P e a := fun b => by
    rw [selTo_in m (Nat.le_refl _)]
    exact ⟨fun h => of_decide_eq_true h.2, fun h => ⟨b.2, decide_eq_true h⟩⟩
  refine ⟨((selTo m (kindB m P e 0) m).filter fun u => decide (R.M ⟨a, ha⟩ u = ⟨a, ha⟩)).length, ?_⟩
  rw [Nat.mul_comm]
  refine fibers (fun u => R.M ⟨a, ha⟩ u) _ _ (selTo_nodup m (Nat.le_refl _)) (fun u h => (hb _).2 (assoc_mem.2 ⟨u.1, u.2, (hu u).1 h, rfl⟩)) fun b h => ?_
  obtain ⟨u0, h1, h2, h3⟩ := assoc_mem.1 ((hb b).1 h)
  obtain ⟨c, hc, h4⟩ := h2
  have e0 : R.M ⟨a, ha⟩ ⟨u0, h1⟩ = b := Fin.ext h3
  have e1 : R.M ⟨u0, h1⟩ ⟨c, hc⟩ = R.o := Fin.ext h4
  have hp : ((selTo m (kindB m P e 0) m).filter fun x => decide (R.M ⟨a, ha⟩ x = b)).Perm (((selTo m (kindB m P e 0) m).filter fun u => decide (R.M ⟨a, ha⟩ u = ⟨a, ha⟩)).map fun s => R.M s ⟨u0, h1⟩) := by
    refine (List.perm_ext_iff_of_nodup ((selTo_nodup m (Nat.le_refl _)).filter _) (nodup_map_inj ((selTo_nodup m (Nat.le_refl _)).filter _) ?_)).2 fun x => ?_
    · intro x _ y _ hxy
      exact Fin.ext (unit_inj R.p ⟨c, hc, h4⟩ h1 x.2 y.2 (congrArg Fin.val hxy))
    · rw [List.mem_filter, List.mem_map]
      constructor
      · rintro ⟨h5, h6⟩
        have h6 := of_decide_eq_true h6
        refine ⟨R.M x ⟨c, hc⟩, List.mem_filter.2 ⟨(hu _).2 (R.unit_mul x.2 hc ((hu x).1 h5) ⟨u0, h1, by rw [R.p.comm hc h1]; exact h4⟩), decide_eq_true ?_⟩, ?_⟩
        · rw [← R.Ma, h6, ← e0, R.Ma, e1, R.M1]
        · rw [R.Ma, R.Mc ⟨c, hc⟩, e1, R.M1]
      · rintro ⟨s, h5, rfl⟩
        rw [List.mem_filter] at h5
        have h6 := of_decide_eq_true h5.2
        refine ⟨(hu _).2 (R.unit_mul s.2 h1 ((hu s).1 h5.1) ⟨c, hc, h4⟩), decide_eq_true ?_⟩
        rw [← R.Ma, h6, e0]
  rw [hp.length_eq, List.length_map]

/-- The idempotents below another one. -/
noncomputable def idF (m : Nat) (P : Nat → Nat) (f : Nat) : List (Fin m) := selTo m (fun x => decide (P (x * m + x) = x ∧ P (x * m + f) = x)) m
theorem RTab.idF_mem (R : RTab m S P e) {f x : Fin m} : x ∈ idF m P f.1 ↔ R.M x x = x ∧ R.M x f = x := by
  unfold idF
  rw [selTo_in m (Nat.le_refl _)]
  constructor
  · intro h
    have := of_decide_eq_true h.2
    exact ⟨Fin.ext this.1, Fin.ext this.2⟩
  · rintro ⟨h1, h2⟩
    exact ⟨x.2, decide_eq_true ⟨congrArg Fin.val h1, congrArg Fin.val h2⟩⟩
theorem idF_nodup {f : Nat} : (idF m P f).Nodup := selTo_nodup m (Nat.le_refl _)
theorem RTab.mm4 (R : RTab m S P e) (a b c d : Fin m) : R.M (R.M a b) (R.M c d) = R.M (R.M a c) (R.M b d) := by
  rw [R.Ma, ← R.Ma b c d, R.Mc b c, R.Ma c b d, ← R.Ma]
theorem sub_len {α : Type} [DecidableEq α] {L K : List α} (hL : L.Nodup) (h : ∀ x ∈ L, x ∈ K) {y : α} (hy : y ∈ K) (hn : y ∉ L) : L.length < K.length := by
  have h1 := (List.nodup_cons.2 ⟨hn, hL⟩).length_le_of_subset (l₂ := K) (fun x hx => by
    rcases List.mem_cons.1 hx with rfl | hx
    · exact hy
    · exact h x hx)
  exact Nat.lt_of_succ_le (by simpa using h1)
/-- The number of idempotents below one is a power of 2. -/
theorem RTab.id_pow (R : RTab m S P e) : ∀ (n : Nat) (f : Fin m), R.M f f = f → (idF m P f.1).length ≤ n → ∃ k, (idF m P f.1).length = 2 ^ k
  | 0, f, hf, hn => by
    have h : f ∈ idF m P f.1 := R.idF_mem.2 ⟨hf, hf⟩
    have := List.length_pos_of_mem h
    omega
  | n + 1, f, hf, hn => by
    by_cases hg : ∃ g, g ∈ idF m P f.1 ∧ g ≠ R.t ∧ g ≠ f
    · obtain ⟨g, hg1, hg2, hg3⟩ := hg
      obtain ⟨gg, gf⟩ := R.idF_mem.1 hg1
      obtain ⟨n', hn', _, hn0⟩ := R.negEx g.2
      obtain ⟨k, hk⟩ : ∃ k : Fin m, k = ⟨n', hn'⟩ := ⟨_, rfl⟩
      have gk : R.A g k = R.t := by subst hk; exact Fin.ext hn0
      clear hk hn0 hn'
      have m1 : R.M g k = k := R.injL (c := g) (by
        have h := R.MA g g k
        rw [gk, R.M0, gg] at h
        rw [← h, gk])
      have m2 : R.M f k = k := R.injL (c := g) (by
        have h := R.MA f g k
        rw [gk, R.M0, R.Mc f g, gf] at h
        rw [← h, gk])
      have m3 : R.M k k = g := R.injL (c := k) (by
        have h := R.MA k g k
        rw [gk, R.M0, R.Mc k g, m1] at h
        rw [← h, R.Ac, gk])
      obtain ⟨h, hh⟩ : ∃ h, h = R.A f k := ⟨_, rfl⟩
      have gh : R.M g h = R.t := by rw [hh, R.MA, gf, m1, gk]
      have fh : R.M f h = h := by rw [hh, R.MA, hf, m2]
      have kh : R.M k h = R.t := by rw [hh, R.MA, R.Mc k f, m2, m3, R.Ac, gk]
      have h2 : R.M h h = h := by
        have e1 : R.M h h = R.A (R.M f h) (R.M k h) := by rw [← R.AM, ← hh]
        rw [e1, fh, kh, R.A0]
      have gph : R.A g h = f := by rw [hh, R.Ac f k, ← R.Aa, gk, R.Z0]
      have part : ∀ x, R.M x f = x → R.A (R.M x g) (R.M x h) = x := fun x hx => by rw [← R.MA, gph, hx]
      have hne : h ≠ f := fun e => by
        rw [e, gf] at gh
        exact hg2 gh
      have lg : (idF m P g.1).length < (idF m P f.1).length := by
        refine sub_len idF_nodup (fun x hx => ?_) (R.idF_mem.2 ⟨hf, hf⟩) fun hx => ?_
        · obtain ⟨a1, a2⟩ := R.idF_mem.1 hx
          exact R.idF_mem.2 ⟨a1, by rw [← a2, R.Ma, gf]⟩
        · have := (R.idF_mem.1 hx).2
          rw [R.Mc, gf] at this
          exact hg3 this
      have lh : (idF m P h.1).length < (idF m P f.1).length := by
        refine sub_len idF_nodup (fun x hx => ?_) (R.idF_mem.2 ⟨hf, hf⟩) fun hx => ?_
        · obtain ⟨a1, a2⟩ := R.idF_mem.1 hx
          exact R.idF_mem.2 ⟨a1, by rw [← a2, R.Ma, R.Mc h f, fh]⟩
        · have := (R.idF_mem.1 hx).2
          rw [fh] at this
          exact hne this
      obtain ⟨k1, hk1⟩ := R.id_pow n g gg (by omega)
      obtain ⟨k2, hk2⟩ := R.id_pow n h h2 (by omega)
      refine ⟨k2 + k1, ?_⟩
      rw [Nat.pow_add, ← hk1, ← hk2]
      refine fibers (fun x => R.M x g) _ _ idF_nodup (fun x hx => ?_) fun y hy => ?_
      · obtain ⟨a1, a2⟩ := R.idF_mem.1 hx
        exact R.idF_mem.2 ⟨by rw [R.mm4, a1, gg], by rw [R.Ma, gg]⟩
      · obtain ⟨y1, y2⟩ := R.idF_mem.1 hy
        have hp : ((idF m P f.1).filter fun x => decide (R.M x g = y)).Perm ((idF m P h.1).map fun z => R.A y z) := by
          refine (List.perm_ext_iff_of_nodup (idF_nodup.filter _) (nodup_map_inj idF_nodup fun x _ z _ hxz => R.injL hxz)).2 fun x => ?_
          rw [List.mem_filter, List.mem_map]
          constructor
          · rintro ⟨h5, h6⟩
            have h6 := of_decide_eq_true h6
            obtain ⟨x1, x2⟩ := R.idF_mem.1 h5
            refine ⟨R.M x h, R.idF_mem.2 ⟨by rw [R.mm4, x1, h2], by rw [R.Ma, h2]⟩, ?_⟩
            rw [← h6]
            exact part x x2
          · rintro ⟨z, hz, rfl⟩
            obtain ⟨z1, z2⟩ := R.idF_mem.1 hz
            have zg : R.M z g = R.t := by rw [← z2, R.Ma, R.Mc h g, gh, R.M0]
            have zy : R.M z y = R.t := by rw [← y2, R.Mc y g, ← R.Ma, zg, R.T0]
            have yf : R.M y f = y := by rw [← y2, R.Ma, gf]
            have zf : R.M z f = z := by rw [← z2, R.Ma, R.Mc h f, fh]
            refine ⟨R.idF_mem.2 ⟨?_, by rw [R.AM, yf, zf]⟩, decide_eq_true (by rw [R.AM, y2, zg, R.A0])⟩
            rw [R.AM, R.MA, R.MA, y1, z1, zy, R.Mc y z, zy, R.A0, R.Z0]
        rw [hp.length_eq, List.length_map]
    · have ho : ∀ x, x ∈ idF m P f.1 → x = R.t ∨ x = f := fun x hx => by
        by_cases h1 : x = R.t
        · exact .inl h1
        · by_cases h2 : x = f
          · exact .inr h2
          · exact absurd ⟨x, hx, h1, h2⟩ hg
      have ht : R.t ∈ idF m P f.1 := R.idF_mem.2 ⟨R.M0 _, R.T0 _⟩
      have hff : f ∈ idF m P f.1 := R.idF_mem.2 ⟨hf, hf⟩
      by_cases h0 : f = R.t
      · refine ⟨0, ?_⟩
        have hp : (idF m P f.1).Perm [R.t] := (List.perm_ext_iff_of_nodup idF_nodup (by simp)).2 fun x => by
          rw [List.mem_singleton]
          exact ⟨fun h => (ho x h).elim id (fun e => e.trans h0), fun h => h ▸ ht⟩
        exact hp.length_eq
      · refine ⟨1, ?_⟩
        have hp : (idF m P f.1).Perm [R.t, f] := (List.perm_ext_iff_of_nodup idF_nodup (by simp [Ne.symm h0])).2 fun x => by
          rw [List.mem_cons, List.mem_singleton]
          exact ⟨ho x, fun h => h.elim (fun e => e ▸ ht) (fun e => e ▸ hff)⟩
        exact hp.length_eq
theorem RTab.idem_count (R : RTab m S P e) : ∃ k, (selTo m (kindB m P e 3) m).length = 2 ^ k := by
  have h : selTo m (kindB m P e 3) m = idF m P R.o.1 := by
    unfold idF
    refine selTo_congr (fun a ha => ?_) m (Nat.le_refl _)
    show idemB m P a = _
    unfold idemB
    rw [decide_eq_decide]
    exact ⟨fun h => ⟨h, R.p.zero ha⟩, fun h => h.1⟩
  rw [h]
  exact R.id_pow _ R.o (R.M1 _) (Nat.le_refl _)
/-- One minus an idempotent. -/
theorem RTab.idem_rest (R : RTab m S P e) {a n : Fin m} (ha : R.M a a = a) (hn : R.A a n = R.t) : R.M (R.A R.o n) (R.A R.o n) = R.A R.o n ∧ R.M a (R.A R.o n) = R.t := by
  have m1 : R.M a n = n := R.injL (c := a) (by
    have h := R.MA a a n
    rw [hn, R.M0, ha] at h
    rw [← h, hn])
  have m2 : R.M a (R.A R.o n) = R.t := by rw [R.MA, R.M1, m1, hn]
  have m3 : R.M n (R.A R.o n) = R.t := by
    have e1 : R.M n (R.A R.o n) = R.M (R.M n a) (R.A R.o n) := by rw [R.Mc n a, m1]
    rw [e1, R.Ma, m2, R.M0]
  refine ⟨?_, m2⟩
  have h := R.AM R.o n (R.A R.o n)
  rw [R.O1, m3, R.A0] at h
  exact h
end

end Go.Proofs.Ytfpkijoamgohcaa
