
/- AssociatesOf of the program. -/
import Derived.Test.YtocoegekdamlbaaI8
namespace Go.Proofs.Ytocoegekdamlbaa
open Go.RowKit Go.Shelf
set_option maxRecDepth 100000
attribute [local go_sem] Oper.semAt_some

/-- The products of an element and all units. -/
noncomputable def assocN (m : Nat) (P : Nat → Nat) (e a : Nat) : List Nat := (finN (selTo m (unitB m P e) m)).map fun u => P (a * m + u)
noncomputable def assocL (n o : Int) (X Y : List Int) (a : Int) : List Int := @ite _ (validB n o X Y = true ∧ inB n a = true) (Classical.propDecidable _) (finI (selTo n.toNat (fun i => decide (i ∈ assocN n.toNat (tabOf Y) o.toNat a.toNat)) n.toNat)) []
theorem assocL_no {n o a : Int} {X Y : List Int} (h : ¬ (validB n o X Y = true ∧ inB n a = true)) : assocL n o X Y a = [] := @if_neg _ (Classical.propDecidable _) h _ _ _
theorem assocL_yes {m e a : Nat} {X Y : List Int} (h : validB m e X Y = true) (ha : inB m a = true) : assocL m e X Y a = finI (selTo m (fun i => decide (i ∈ assocN m (tabOf Y) e a)) m) := @if_pos _ (Classical.propDecidable _) ⟨h, ha⟩ _ _ _

/-- What a round of the loop over the units keeps: all but the set. -/
def KpA (n1 Br Bp : Nat) (V V' : World) : Prop := Below n1 V V' ∧ V'.heap[Br]? = V.heap[Br]? ∧ V'.heap[Bp]? = V.heap[Bp]?
theorem KpA_t {n1 Br Bp : Nat} {A B C : World} (h : KpA n1 Br Bp A B) (k : KpA n1 Br Bp B C) : KpA n1 Br Bp A C := ⟨h.1.trans k.1, k.2.1.trans h.2.1, k.2.2.trans h.2.2⟩
theorem KpA_b {n1 Br Bp : Nat} {w : World} (hn : n1 ≤ w.heap.size) (hr : Br < w.heap.size) (hp : Bp < w.heap.size) (W : World) (l : Nat) (o o' : Obj) (hl : w.heap.size ≤ l) (h : W.heap[l]? = some o) (hc : o.isCells = false) (hw : o.isWalk = false) : KpA n1 Br Bp W (W.putObj l o') :=
  ⟨belowK_b hn W l o o' hl h hc hw, World.putObj_heap_other (by omega), World.putObj_heap_other (by omega)⟩

theorem units_seq {Br Bp : Nat} (w0 : World) (m e b1 o1 la ca b2 o2 lb cb : Nat) (S P : Nat → Nat) (w : World) (hr : RingAt w m e b1 o1 la ca b2 o2 lb cb S P) (hr0 : RingAt w0 m e b1 o1 la ca b2 o2 lb cb S P) (hb : Below w0.heap.size w0 w) (h1 : Blk w Br 28 #[.int .i64 m, .int .i64 e, .slice (some ⟨b1, o1, none⟩) la ca, .slice (some ⟨b2, o2, none⟩) lb cb])
    (h2 : Blk w Bp 63 #[.func (.func (testF 0)) #[.agg #[.int .i64 m, .int .i64 e, .slice (some ⟨b1, o1, none⟩) la ca, .slice (some ⟨b2, o2, none⟩) lb cb]] #[]]) :
    SeqStopsK Fence.wide 2 Try.prog 95 #[.pointer (some ⟨Br, 0, none⟩), .pointer (some ⟨Bp, 0, none⟩)] (encF m) (KpA w0.heap.size Br Bp) (fun ys => ys = selTo m (kindB m P e 0) m) (fun pre => pre <+: selTo m (kindB m P e 0) m) m w :=
  where_stops 2 m Br Bp (testF 0) #[.agg #[.int .i64 m, .int .i64 e, .slice (some ⟨b1, o1, none⟩) la ca, .slice (some ⟨b2, o2, none⟩) lb cb]] (kindB m P e 0) (by decide) hr.hm' (KpA w0.heap.size Br Bp) (fun W => Below w0.heap.size w0 W ∧ Blk W Br 28 #[.int .i64 m, .int .i64 e, .slice (some ⟨b1, o1, none⟩) la ca, .slice (some ⟨b2, o2, none⟩) lb cb] ∧ Blk W Bp 63 #[.func (.func (testF 0)) #[.agg #[.int .i64 m, .int .i64 e, .slice (some ⟨b1, o1, none⟩) la ca, .slice (some ⟨b2, o2, none⟩) lb cb]] #[]]) (tests_enter (by decide))
    (fun W hW => hW.2.1.cell 0) (fun W hW => hW.2.2.cell 0) (fun W W' hW hb => ⟨hW.1.trans (hb.mono hW.1.size), hW.2.1.next hb, hW.2.2.next hb⟩) (fun W W' hW hk => ⟨hW.1.trans hk.1, hk.2.1.trans hW.2.1, hk.2.2.trans hW.2.2⟩)
    (fun a ha W hW => tests_call m e b1 o1 la ca b2 o2 lb cb S P W (hr0.next hW.1) (by decide) ha) w (fun W hW => ⟨hb.trans (hW.mono hb.size), h1.next hW, h2.next hW⟩)
theorem has_seq {Br Bp : Nat} (l : List Nat) (S : Array Value) (m : Nat) (w : World) (hS : setA l = S) (hm' : m ≤ 16) (rc : Array Value) (h1 : Blk w Br 28 rc) (hrc : rc[0]? = some (.int .i64 m))
    (h2 : Blk w Bp 63 #[.func (.func 77) #[.agg S] #[]]) :
    SeqStopsK Fence.wide 2 Try.prog 95 #[.pointer (some ⟨Br, 0, none⟩), .pointer (some ⟨Bp, 0, none⟩)] (encF m) (Below w.heap.size) (fun ys => ys = selTo m (fun i => decide (i ∈ l)) m) (fun pre => pre <+: selTo m (fun i => decide (i ∈ l)) m) m w := by
  subst hS
  exact where_stops 2 m Br Bp 77 #[.agg (setA l)] (fun i => decide (i ∈ l)) (by decide) hm' (Below w.heap.size) (fun W => Below w.heap.size w W) (enters_of Try.func77 (by kernel_rfl) rfl)
    (fun W hW => ((h1.below hW h1.lt).cell 0).trans hrc) (fun W hW => (h2.below hW h2.lt).cell 0) (fun W W' hW hb => hW.trans (hb.mono hW.size)) (fun W W' hW hb => hW.trans hb)
    (fun a ha W _ => setHas_any l a W (by omega)) w (fun W hW => hW)

set_option maxHeartbeats 8000000 in
theorem assoc_any (n o : Int) (A B : Option Addr) (la ca lb cb : Nat) (X Y : List Int) (a : Int) (w : World) (hX : Ints w w.heap.size A la X) (hY : Ints w w.heap.size B lb Y) (hla : la ≤ 9223372036854775807) (hlb : lb ≤ 9223372036854775807) (hca : la ≤ ca) (hcb : lb ≤ cb) :
    Calls Try.prog 43 #[.agg #[.int .i64 n, .int .i64 o, .slice A la ca, .slice B lb cb], .int .i64 a] w fun e' w' => ∃ v, e' = .returned v ∧ SliceOut w.heap.size w' v (assocL n o X Y a) ∧ Below w.heap.size w w' := by
  obtain ⟨W, hW⟩ : ∃ W, (w.alloc (.cells #[.int .i64 n, .int .i64 o, .slice A la ca, .slice B lb cb] 28)).alloc (.cells #[.int .i64 a] 3) = W := ⟨_, rfl⟩
  have k0 : Blk W w.heap.size 28 #[.int .i64 n, .int .i64 o, .slice A la ca, .slice B lb cb] := by
    subst hW; exact (Blk.new w _ _).alloc _
  have k1 : Blk W (w.heap.size + 1) 3 #[.int .i64 a] := by
    subst hW
    have := Blk.new (w.alloc (.cells #[.int .i64 n, .int .i64 o, .slice A la ca, .slice B lb cb] 28)) 3 #[.int .i64 a]
    rw [World.size_alloc] at this
    exact this
  have b0 : Below w.heap.size w W := by
    subst hW; exact ((Below.refl _ _).alloc (Nat.le_refl _) _).alloc (by simp) _
  have hs0 : w.heap.size + 1 < W.heap.size := k1.lt
  have HX := Lib.hid (hX.next b0)
  have HY := Lib.hid (hY.next b0)
  have B0 := Lib.hid b0
  have HW := Lib.hid hW
  have K0 := Lib.hid k0
  have K1 := Lib.hid k1
  obtain ⟨c0, c1, c2, c3⟩ := blk4 k0
  have c4 := k1.cell 0
  simp at c4
  clear k0 k1 b0 hW
  cases hv : validB n o X Y
  · have hz := Lib.hid (assocL_no (n := n) (o := o) (X := X) (Y := Y) (a := a) (fun g => by have := g.1; rw [hv] at this; cases this))
    clear hX hY
    go_enter Try.func43, Try.ntmps43
    go_wp2_with (fail)
    rw [HW.out]
    go_wp2_with (go_at_call 65; refine (valid_any _ _ _ _ _ _ _ _ X Y _ HX.out HY.out hla hlb hca hcb).mono ?_; rintro e1 w1 ⟨rfl, hb1⟩)
    go_ret
    exact ⟨_, rfl, by rw [hz.out]; exact SliceOut.nil, below_step B0.out hb1⟩
  · cases ha : inB n a
    · have hz := Lib.hid (assocL_no (n := n) (o := o) (X := X) (Y := Y) (a := a) (fun g => by have := g.2; rw [ha] at this; cases this))
      clear hX hY
      go_enter Try.func43, Try.ntmps43
      go_wp2_with (fail)
      rw [HW.out]
      go_wp2_with (first
        | (go_at_call 65; refine (valid_any _ _ _ _ _ _ _ _ X Y _ HX.out HY.out hla hlb hca hcb).mono ?_; rintro e1 w1 ⟨rfl, hb1⟩; obtain ⟨d0, d1, d2, d3⟩ := blk4 (K0.out.next hb1); have d4 := (K1.out.next hb1).cell 0; simp at d4)
        | (go_at_call 66; (with_reducible refine (has_any _ _ a _ _ _ _ _ _ _).mono ?_); rintro e2 w2 ⟨rfl, hb2⟩))
      go_ret
      exact ⟨_, rfl, by rw [hz.out]; exact SliceOut.nil, below_step (below_step B0.out hb1) hb2⟩
    · obtain ⟨m, e, b1, o1, b2, o2, rfl, rfl, rfl, rfl, hr, _, _, _, _, _⟩ := valid_data hv hX hY hca hcb
      have ha' := of_decide_eq_true ha
      obtain ⟨a, rfl⟩ := Int.eq_ofNat_of_zero_le ha'.1
      have la' : a < m := by omega
      have hz := Lib.hid (assocL_yes hv ha)
      have hm' := hr.hm'
      have HR0 := Lib.hid hr
      clear hX hY hr
      refine (callsIn_wide (n := 3)).1 ?_
      refine callsIn_of_wp_marks Try.func43 rfl trivial ?_ rfl
      simp only [Try.ntmps43, List.size_toArray, List.length_cons, List.length_nil, Nat.reduceAdd, Nat.reduceSub, Array.replicate_succ, Array.replicate_zero, List.push_toArray, List.append_toArray, List.nil_append, List.cons_append]
      gi_wp2_with (fail)
      rw [HW.out]
      gi_wp2_with (first
        | (refine ⟨trivial, ?_⟩; gi_at_call 65; refine (callsIn_wide.2 (valid_any _ _ _ _ _ _ _ _ X Y _ HX.out HY.out hla hlb hca hcb)).mono ?_; rintro e1 w1 ⟨rfl, hb1⟩; obtain ⟨d0, d1, d2, d3⟩ := blk4 (K0.out.next hb1); have d4 := (K1.out.next hb1).cell 0; simp at d4)
        | (refine ⟨trivial, ?_⟩; gi_at_call 66; refine (callsIn_wide.2 (has_any _ _ a _ _ _ _ _ _ _)).mono ?_; rintro e2 w2 ⟨rfl, hb2⟩; obtain ⟨f0, f1, f2, f3⟩ := blk4 ((K0.out.next hb1).next hb2); have f4 := ((K1.out.next hb1).next hb2).cell 0; simp at f4; obtain ⟨j0, j1, j2, j3⟩ := blk4 (((K0.out.next hb1).next hb2).alloc (.cells #[.bool false, .bool false, .bool false, .bool false, .bool false, .bool false, .bool false, .bool false, .bool false, .bool false, .bool false, .bool false, .bool false, .bool false, .bool false, .bool false] 69))))
      rw [← setA_nil]
      have B2 := Lib.hid (below_step (below_step B0.out hb1) hb2)
      obtain ⟨W3, hW3⟩ : ∃ W3, w2.alloc (.cells (setA []) 69) = W3 := ⟨_, rfl⟩
      have g0 : Blk W3 w2.heap.size 69 (setA []) := by subst hW3; exact Blk.new w2 _ _
      have b3 : Below w2.heap.size w2 W3 := by subst hW3; exact (Below.refl _ _).alloc (Nat.le_refl _) _
      rw [hW3]
      have K0 := Lib.hid (((K0.out.next hb1).next hb2).next b3)
      have K1 := Lib.hid (((K1.out.next hb1).next hb2).next b3)
      have B3 := Lib.hid (below_step B2.out b3)
      have s1 := hb1.size
      have s2 := hb2.size
      have s3 := g0.lt
      have G0 := Lib.hid g0
      clear hW3 b3 g0 hb1 hb2 j0 j1 j2 j3 c0 c1 c2 c3 c4 d0 d1 d2 d3 d4 f0 f1 f2 f3 f4
      refine ⟨trivial, ?_⟩
      refine (callsIn_wide.2 (ofKind_any 0 m e _ _ la ca lb cb W3 (by decide))).mono ?_
      rintro e4 w4 ⟨Br, Bp, rfl, hr1, hr2, hB1, hB2, hb4⟩
      have SQ := Lib.hid (units_seq w m e b1 o1 la ca b2 o2 lb cb (tabOf X) (tabOf Y) w4 (HR0.out.next (below_step B3.out hb4)) HR0.out (below_step B3.out hb4) hB1 hB2)
      have K0 := Lib.hid (K0.out.next hb4)
      have K1 := Lib.hid (K1.out.next hb4)
      have G0 := Lib.hid (G0.out.next hb4)
      have B4 := Lib.hid (below_step B3.out hb4)
      have s4 := hb4.size
      have r1 := hB1.lt
      have r2 := hB2.lt
      have HB1 := Lib.hid hB1
      have HB2 := Lib.hid hB2
      clear hb4 hB1 hB2
      gi_wp2
      refine wpIn_rangeFunc_ownG rfl (by omega) (gf := 95) (lb := #[.pointer (some ⟨Br, 0, none⟩), .pointer (some ⟨Bp, 0, none⟩)]) rfl trivial (enters_of Try.func95 (by kernel_rfl) rfl) SQ.out KpA_t (KpA_b (by omega) r1 r2) (Below.refl _ _) (fun _ => rfl)
        (fun pre V => (Blk V w2.heap.size 69 (setA ((finN pre).map fun u => tabOf Y (a * m + u))) ∧ Blk V w.heap.size 28 #[.int .i64 m, .int .i64 e, .slice (some ⟨b1, o1, none⟩) la ca, .slice (some ⟨b2, o2, none⟩) lb cb] ∧ Blk V (w.heap.size + 1) 3 #[.int .i64 a] ∧ Blk V Br 28 #[.int .i64 m, .int .i64 e, .slice (some ⟨b1, o1, none⟩) la ca, .slice (some ⟨b2, o2, none⟩) lb cb] ∧ Blk V Bp 63 #[.func (.func (testF 0)) #[.agg #[.int .i64 m, .int .i64 e, .slice (some ⟨b1, o1, none⟩) la ca, .slice (some ⟨b2, o2, none⟩) lb cb]] #[]]) ∧ Below w.heap.size w V)
        (fun _ _ _ => False)
        (OwnFrom.and (OwnFrom.and (ownFrom_blk _ _ _ _) (OwnFrom.and (ownFrom_blk _ _ _ (fun _ => _)) (OwnFrom.and (ownFrom_blk _ _ _ (fun _ => _)) (OwnFrom.and (ownFrom_blk _ _ _ (fun _ => _)) (ownFrom_blk _ _ _ (fun _ => _)))))) (ownFrom_below (Nat.le_refl _) (by omega)))
        (fun _ _ _ _ _ hs _ _ => hs)
        ⟨⟨G0.out, K0.out, K1.out, HB1.out, HB2.out⟩, B4.out⟩
        (fun x => { tmps := #[.agg #[.int .i64 m, .int .i64 e, .slice (some ⟨b1, o1, none⟩) la ca, .slice (some ⟨b2, o2, none⟩) lb cb], .int .i64 a, .pointer (some ⟨w.heap.size, 0, none⟩), .pointer (some ⟨w.heap.size + 1, 0, none⟩), .slice none 0 0, .pointer (some ⟨w2.heap.size, 0, none⟩), .int .i64 (x.1 : Int), .agg #[.int .i64 m, .int .i64 e, .slice (some ⟨b1, o1, none⟩) la ca, .slice (some ⟨b2, o2, none⟩) lb cb], .bool true, .bool false, .bool false, .agg #[.int .i64 m, .int .i64 e, .slice (some ⟨b1, o1, none⟩) la ca, .slice (some ⟨b2, o2, none⟩) lb cb], .int .i64 a, .bool true, .bool false, .bool false, .agg #[.int .i64 m, .int .i64 e, .slice (some ⟨b1, o1, none⟩) la ca, .slice (some ⟨b2, o2, none⟩) lb cb], .func (.func 95) #[] #[.pointer (some ⟨Br, 0, none⟩), .pointer (some ⟨Bp, 0, none⟩)], .int .i64 (x.1 : Int), undef, undef, undef, undef, undef, undef, undef, undef, undef, undef], defers := [] }) ?assign ?body ?done ?stop
      case assign =>
        intro l x V K hK
        gi_wp2
        exact hK
      case body =>
        rintro l pre x V ⟨⟨h1, h2, h3, h4, h5⟩, hB⟩ hlt
        obtain ⟨c0, c1, c2, c3⟩ := blk4 h2
        have c4 := h3.cell 0
        simp at c4
        have RV := Lib.hid (HR0.out.next hB)
        have H1 := Lib.hid h1
        have H2 := Lib.hid h2
        have H3 := Lib.hid h3
        have H4 := Lib.hid h4
        have H5 := Lib.hid h5
        have HB := Lib.hid hB
        have hsV := hB.size
        have hx := x.2
        have ht := RV.out.tp.lt la' hx
        clear h1 h2 h3 h4 h5 hB
        gi_wp2
        refine ⟨trivial, ?_⟩
        refine (CallsIn.inRound l (callsIn_wide.2 (product_any a x.1 m e b1 o1 la ca b2 o2 lb cb (tabOf X) (tabOf Y) V RV.out la' hx))).mono ?_
        rintro e1 V1 ⟨rfl, hb1⟩
        have Q1 := Lib.hid hb1
        have hc := ((H1.out.next hb1).cell (tabOf Y (a * m + x.1))).trans (setA_get (by omega))
        have hf := (H1.out.next hb1).frozen (tabOf Y (a * m + x.1))
        have t0 : (0 : Int) ≤ (tabOf Y (a * m + x.1) : Int) := by omega
        have t1 : (tabOf Y (a * m + x.1) : Int) < 16 := by omega
        clear hb1
        gi_wp2
        have q1 := Q1.out
        have p1 : w2.heap.size ≠ Br := by omega
        have p2 : w2.heap.size ≠ Bp := by omega
        refine ⟨((KeepsOthers.of_grownBy (Go.Proofs.Ytocoegekdamlbaa.Below.grown_ q1) (fun j o ej _ => by cases ej)).trans (KeepsOthers.setCell _ _ _)).from _, ⟨(q1.mono hsV).setCell (p := ⟨w2.heap.size, _, none⟩) (by show w.heap.size ≤ w2.heap.size; omega) _, ?_, ?_⟩, ⟨?_, (H2.out.next q1).far (by show w.heap.size ≠ w2.heap.size; omega) _, (H3.out.next q1).far (by show w.heap.size + 1 ≠ w2.heap.size; omega) _, (H4.out.next q1).far (Ne.symm p1) _, (H5.out.next q1).far (Ne.symm p2) _⟩, (below_step HB.out q1).setCell (p := ⟨w2.heap.size, _, none⟩) (by show w.heap.size ≤ w2.heap.size; omega) _⟩
        · exact (Below.heap_setCell _ _ _ Br (Ne.symm p1)).trans (q1.block Br H4.out.lt)
        · exact (Below.heap_setCell _ _ _ Bp (Ne.symm p2)).trans (q1.block Bp H5.out.lt)
        · have := (H1.out.next q1).set_ (tabOf Y (a * m + x.1)) (.bool true)
          rw [setA_set] at this
          simpa [finN] using this
      case done =>
        rintro D ys V hD rfl ⟨⟨h1, h2, h3, _, _⟩, hB⟩ hK
        obtain ⟨c0, c1, c2, c3⟩ := blk4 h2
        obtain ⟨S, hS⟩ : ∃ S, setA ((finN (selTo m (kindB m (tabOf Y) e 0) m)).map fun u => tabOf Y (a * m + u)) = S := ⟨_, rfl⟩
        have hS1 : S.size = 16 := by rw [← hS, setA_size]
        have hi : (Try.prog.info? 69).map (·.size) = some S.size := by rw [hS1]; kernel_rfl
        rw [hS] at h1
        have HS := Lib.hid hS
        have H1 := Lib.hid h1
        have HB := Lib.hid hB
        have HK := Lib.hid hK
        have hDV := (Array.getElem?_eq_some_iff.1 hK).1
        have EG := Lib.hid (enters_of Try.func95 (by kernel_rfl) rfl)
        clear h1 h2 h3 hB hK hS
        gi_wp2_with (first
          | (refine wpListIn_load_rowW rfl 69 (.tmp 5) rfl w2.heap.size rfl _ S (0, 0) _ H1.out Try.underlying69 rfl hi ?_)
          | (refine ⟨trivial, ?_⟩; gi_at_call 76; refine (callsIn_wide.2 (where_any m e _ _ la ca lb cb 77 #[.agg S] V)).mono ?_; rintro e5 V5 ⟨rfl, hC1, hC2, hb5⟩; have Q5 := Lib.hid hb5; have SQ5 := Lib.hid (has_seq _ S m V5 HS.out hm' _ hC1 rfl hC2); clear hb5 hC1 hC2)
          | (refine ⟨trivial, ?_⟩; gi_at_call 75; refine (callsIn_wide.2 (collect_any m _ V5.heap.size m _ _ _ V5 EG.out SQ5.out (by omega) (Nat.le_refl _))).mono ?_; rintro e6 V6 ⟨v, rfl, ho, hb6⟩; have Q6 := Lib.hid hb6; have O6 := Lib.hid ho; clear hb6 ho))
        have q56 : Below V.heap.size V V6 := below_step Q5.out Q6.out
        have hK2 : V6.heap[D]? = some (.deferred (some [])) := (q56.block D hDV).trans HK.out
        refine ⟨by simp, .inl ⟨_, _, rfl, run_takeDeferred hK2, ?_⟩⟩
        refine ⟨_, results_tmp rfl _ _ _, v, rfl, ?_, (below_step HB.out q56).trans (belowK_b (w := w4) (by omega) V6 D _ _ (by omega) hK2 rfl rfl)⟩
        rw [hz.out]
        exact (sel_out (ownsRow_putObj O6.out _ hK2 rfl) rfl (Nat.le_trans (selTo_len _) hm')).down (by have := HB.out.size; have := Q5.out.size; omega)
      case stop =>
        rintro D c pre W _ _ h _
        exact h.elim

end Go.Proofs.Ytocoegekdamlbaa
