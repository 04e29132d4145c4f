/- Texts of this seat in one: QG QH QI QF. -/
import Derived.Test.YtdhjcgbaaghnoaaMN
import Derived.Scope
import Derived.RangeFuncLeaves
import Derived.Test.YtdhjcgbaaghnoaaMO
import Derived.Test.YtdhjcgbaaghnoaaMQ
import Derived.WalkMore

/- A labelled body behind a fence; frames that leave over many marks. No program in sight. -/
namespace Go.Proofs.Ytdhjcgbaaghnoaa
open Go.RowKit

section
variable {P : Program} {b : Frame} {a : Act} {k : List Item} {cs : List Frame} {w : World} {Q : Exit → Act → World → Prop} {F : Fence} {n : Nat}
theorem stepR_scope {c : Code} : step P (lone (b.atR a (.code (.scope c) :: k)) cs w) = .next (lone (b.atR a (.code c :: .inScope c :: k)) cs w) :=
  step_lone_go (by simp [stepG, stepG.exec, Frame.atR])
theorem stepR_inScope {c : Code} : step P (lone (b.atR a (.inScope c :: k)) cs w) = .next (lone (b.atR a k) cs w) :=
  step_lone_go (by simp [stepG, stepG.exec, Frame.atR])
/-- A body that holds a label but jumps nowhere. -/
theorem wpIn_scope_straight {c : Code} (h : c.wpIn F n P (Exit.noGoto Q) a w) : (Code.scope c).wpIn F n P Q a w := by
  intro b k cs hro hb hr
  have h0 : (lone (b.atR a (.code (.scope c) :: k)) cs w).fenced P F := fenced_calm hb hr rfl
  obtain ⟨e, a₁, w₁, hq, harr⟩ := h b (.inScope c :: k) cs hro hb hr
  cases e with
  | normal => exact ⟨.normal, a₁, w₁, hq, .head h0 stepR_scope (StepsIn.trans harr (.one (fenced_calm hb hr rfl) stepR_inScope))⟩
  | exit id =>
    have hx : exitTo id (.inScope c :: k) = exitTo id k := by simp [exitTo]
    exact ⟨.exit id, a₁, w₁, hq, fun k' hk => .head h0 stepR_scope (harr.1 k' (by rw [hx]; exact hk)),
      fun hr' hk => let ⟨k₁, h1, h2⟩ := harr.2 hr' (by rw [hx]; exact hk); ⟨k₁, h1, .head h0 stepR_scope h2⟩⟩
  | goto l => exact hq.elim
  | ret => exact ⟨_, a₁, w₁, hq, .of_steps (.one h0 stepR_scope) harr⟩
  | panic ch => exact ⟨_, a₁, w₁, hq, .of_steps (.one h0 stepR_scope) harr⟩
  | outgrown => exact ⟨_, a₁, w₁, hq, .of_steps (.one h0 stepR_scope) harr⟩
end

def markD (D : Nat) : Deferred := { target := .collected D, args := #[] }
/-- Marks of loops that have ended. -/
def Marks (B : Nat) (w : World) (Ds : List Nat) : Prop := Ds.Nodup ∧ ∀ D ∈ Ds, B ≤ D ∧ w.heap[D]? = some (.deferred (some []))
theorem Marks.nil {B : Nat} {w : World} : Marks B w [] := ⟨List.nodup_nil, fun _ h => by cases h⟩
theorem Marks.cons {B : Nat} {w : World} {D : Nat} {Ds : List Nat} (h : Marks B w Ds) (hD : D ∉ Ds) (hB : B ≤ D) (hw : w.heap[D]? = some (.deferred (some []))) : Marks B w (D :: Ds) :=
  ⟨List.nodup_cons.2 ⟨hD, h.1⟩, fun x hx => by
    rcases List.mem_cons.1 hx with rfl | hx
    · exact ⟨hB, hw⟩
    · exact h.2 x hx⟩
theorem Marks.lt {B : Nat} {w : World} {Ds : List Nat} (h : Marks B w Ds) : ∀ D ∈ Ds, D < w.heap.size := fun D hD => by
  have := (h.2 D hD).2
  exact (Array.getElem?_eq_some_iff.1 this).1
theorem Marks.next {B : Nat} {w w' : World} {Ds : List Nat} (h : Marks B w Ds) (hb : Below w.heap.size w w') : Marks B w' Ds :=
  ⟨h.1, fun D hD => ⟨(h.2 D hD).1, (hb.block D (h.lt D hD)).trans (h.2 D hD).2⟩⟩
theorem Marks.set_ {B g : Nat} {w : World} {Ds : List Nat} (h : Marks B w Ds) (hg : g < B) (i : Nat) (u : Value) : Marks B (w.setCell ⟨g, i, none⟩ u) Ds :=
  ⟨h.1, fun D hD => ⟨(h.2 D hD).1, (Below.heap_setCell w ⟨g, i, none⟩ u D (by have := (h.2 D hD).1; show D ≠ g; omega)).trans (h.2 D hD).2⟩⟩
theorem leaves_marks {P : Program} {F : Fence} {n : Nat} {fn : Func} {tmps : Array Value} {R : Ending → World → Prop} {B : Nat} : ∀ (Ds : List Nat) (w : World), Marks B w Ds →
    (∀ w', Below B w w' → LeavesInM F n P fn tmps R [] .returning w') → LeavesInM F n P fn tmps R (Ds.map markD) .returning w
  | [], w, _, h => h w (Below.refl _ _)
  | D :: Ds, w, hm, h => by
    have hD := hm.2 D (List.mem_cons_self ..)
    refine ⟨by simp, .inl ⟨D, _, rfl, run_takeDeferred hD.2, ?_⟩⟩
    have hb : Below B w (w.putObj D (.deferred none)) := by
      have hlt : D < w.heap.size := hm.lt D (List.mem_cons_self ..)
      refine ⟨rfl, rfl, rfl, by simp [World.putObj], fun k hk => ?_⟩
      exact World.putObj_heap_other (by omega)
    refine leaves_marks Ds _ ⟨(List.nodup_cons.1 hm.1).2, fun x hx => ?_⟩ (fun w' hw' => h w' (hb.trans hw'))
    have hne : x ≠ D := fun e => (List.nodup_cons.1 hm.1).1 (e ▸ hx)
    exact ⟨(hm.2 x (List.mem_cons_of_mem _ hx)).1, (World.putObj_heap_other hne).trans (hm.2 x (List.mem_cons_of_mem _ hx)).2⟩

end Go.Proofs.Ytdhjcgbaaghnoaa


/- idealColon of the program: a range over a function in each round of a labelled loop. -/
namespace Go.Proofs.Ytdhjcgbaaghnoaa
open Go.RowKit Go.Shelf
set_option maxRecDepth 100000
attribute [local go_sem] Oper.semAt_some

noncomputable def colK (m : Nat) (P : Nat → Nat) (p q : Nat → Bool) (k i : Nat) : Bool := decide (i < k) && colB m P p q i
theorem colK_zero {m : Nat} {P : Nat → Nat} {p q : Nat → Bool} : colK m P p q 0 = fun _ => false := funext fun i => by unfold colK; rw [decide_eq_false (by omega)]; rfl
theorem colK_no {m k : Nat} {P : Nat → Nat} {p q : Nat → Bool} (h : colB m P p q k = false) : colK m P p q (k + 1) = colK m P p q k := funext fun i => by
  unfold colK
  by_cases e : i = k
  · subst e; rw [h]; simp
  · rw [show decide (i < k + 1) = decide (i < k) from decide_eq_decide.2 (by omega)]
theorem colK_yes {m k : Nat} {P : Nat → Nat} {p q : Nat → Bool} (h : colB m P p q k = true) : (fun i => colK m P p q k i || decide (i = k)) = colK m P p q (k + 1) := funext fun i => by
  unfold colK
  by_cases e : i = k
  · subst e; rw [h]; simp
  · rw [show decide (i < k + 1) = decide (i < k) from decide_eq_decide.2 (by omega), decide_eq_false e, Bool.or_false]

set_option maxHeartbeats 16000000 in
theorem idealColon_any (p q : Nat → Bool) (m e b1 o1 la ca b2 o2 lb cb : Nat) (S P : Nat → Nat) (w : World) (hr : RingAt w m e b1 o1 la ca b2 o2 lb cb S P) (hq : ∀ i, q i = true → i < m) :
    Calls Try.prog 91 #[.agg #[.int .i64 m, .int .i64 e, .slice (some ⟨b1, o1, none⟩) la ca, .slice (some ⟨b2, o2, none⟩) lb cb], .agg (setP p), .agg (setP q)] w fun e' w' => e' = .returned (.agg (setP (colK m P p q m))) ∧ Below w.heap.size w w' := by
  obtain ⟨s, hs⟩ : ∃ s, w.heap.size = s := ⟨_, rfl⟩
  obtain ⟨W, hW⟩ : ∃ W, ((((w.alloc (.cells #[.int .i64 m, .int .i64 e, .slice (some ⟨b1, o1, none⟩) la ca, .slice (some ⟨b2, o2, none⟩) lb cb] 27)).alloc (.cells (setP p) 118)).alloc (.cells (setP q) 118)).alloc (.cells (setP fun _ => false) 118)).alloc (.cells (setP fun _ => false) 118) = W := ⟨_, rfl⟩
  have k0 : Blk W s 27 #[.int .i64 m, .int .i64 e, .slice (some ⟨b1, o1, none⟩) la ca, .slice (some ⟨b2, o2, none⟩) lb cb] := by
    subst hW hs; exact ((((Blk.new w _ _).alloc _).alloc _).alloc _).alloc _
  have k1 : Blk W (s + 1) 118 (setP p) := by
    subst hW hs
    have := (((Blk.new (w.alloc (.cells #[.int .i64 m, .int .i64 e, .slice (some ⟨b1, o1, none⟩) la ca, .slice (some ⟨b2, o2, none⟩) lb cb] 27)) 118 (setP p)).alloc (.cells (setP q) 118)).alloc (.cells (setP fun _ => false) 118)).alloc (.cells (setP fun _ => false) 118)
    simp only [World.size_alloc] at this
    exact this
  have k2 : Blk W (s + 2) 118 (setP q) := by
    subst hW hs
    have := ((Blk.new ((w.alloc (.cells #[.int .i64 m, .int .i64 e, .slice (some ⟨b1, o1, none⟩) la ca, .slice (some ⟨b2, o2, none⟩) lb cb] 27)).alloc (.cells (setP p) 118)) 118 (setP q)).alloc (.cells (setP fun _ => false) 118)).alloc (.cells (setP fun _ => false) 118)
    simp only [World.size_alloc] at this
    exact this
  have k3 : Blk W (s + 3) 118 (setP fun _ => false) := by
    subst hW hs
    have := (Blk.new (((w.alloc (.cells #[.int .i64 m, .int .i64 e, .slice (some ⟨b1, o1, none⟩) la ca, .slice (some ⟨b2, o2, none⟩) lb cb] 27)).alloc (.cells (setP p) 118)).alloc (.cells (setP q) 118)) 118 (setP fun _ => false)).alloc (.cells (setP fun _ => false) 118)
    simp only [World.size_alloc] at this
    exact this
  have k4 : Blk W (s + 4) 118 (setP fun _ => false) := by
    subst hW hs
    have := Blk.new ((((w.alloc (.cells #[.int .i64 m, .int .i64 e, .slice (some ⟨b1, o1, none⟩) la ca, .slice (some ⟨b2, o2, none⟩) lb cb] 27)).alloc (.cells (setP p) 118)).alloc (.cells (setP q) 118)).alloc (.cells (setP fun _ => false) 118)) 118 (setP fun _ => false)
    simp only [World.size_alloc] at this
    exact this
  have b0 : Below s w W := by
    subst hW hs; exact (((((Below.refl _ _).alloc (Nat.le_refl _) _).alloc (by simp) _).alloc (by simp; omega) _).alloc (by simp; omega) _).alloc (by simp; omega) _
  have zW : s + 5 ≤ W.heap.size := k4.lt
  rw [hs]
  have hsw : s ≤ w.heap.size := by omega
  have hm' := hr.hm'
  have HR0 := Lib.hid hr
  have HS := Lib.hid hs
  rw [setP_nil] at hW
  have HW := Lib.hid hW
  have K0 := Lib.hid k0
  have K1 := Lib.hid k1
  have K2 := Lib.hid k2
  have K3 := Lib.hid k3
  have K4 := Lib.hid k4
  have B0 := Lib.hid b0
  have HQL := Lib.hid hq
  obtain ⟨c0, c1, c2, c3⟩ := blk4 k0
  have hip := set_info (setP_size (p := p))
  have hiq := set_info (setP_size (p := q))
  have EGW := Lib.hid (enters_of Try.func113 (by kernel_rfl) rfl)
  have EGH := Lib.hid (enters_of Try.func122 (by kernel_rfl) rfl)
  have hPl : ∀ x y, x < m → y < m → P (x * m + y) < m := fun x y hx hy => hr.tp.lt hx hy
  have HPl := Lib.hid hPl
  clear hW k0 k1 k2 k3 k4 b0 hr hPl hq
  refine (callsIn_wide (n := 3)).1 ?_
  refine callsIn_of_wp_marks Try.func91 rfl trivial ?_ rfl
  simp only [Try.ntmps91, List.size_toArray, List.length_cons, List.length_nil, Nat.reduceAdd, Nat.reduceSub, Array.replicate_succ, Array.replicate_zero, List.push_toArray, List.append_toArray, List.nil_append, List.cons_append]
  gi_wp2
  refine wpIn_scope_straight ?_
  gi_wp2
  refine wpIn_label ?_
  rw [HW.out]
  gi_wp2
  refine wpIn_loop (fun a' V => ∃ (k : Nat) (Ds : List Nat) (x8 x9 x13 x14 x15 x16 x17 x18 x19 x20 x21 x22 x23 x24 x25 x26 x27 x28 x29 x30 : Value), k ≤ m ∧ a' = { tmps := #[.agg #[.int .i64 m, .int .i64 e, .slice (some ⟨b1, o1, none⟩) la ca, .slice (some ⟨b2, o2, none⟩) lb cb], .agg (setP p), .agg (setP q), .pointer (some ⟨s, 0, none⟩), .pointer (some ⟨s + 1, 0, none⟩), .pointer (some ⟨s + 2, 0, none⟩), .pointer (some ⟨s + 3, 0, none⟩), .pointer (some ⟨s + 4, 0, none⟩), x8, x9, .pointer (some ⟨s, 0, none⟩), .int .i64 m, .int .i64 k, x13, x14, x15, x16, x17, x18, x19, x20, x21, x22, x23, x24, x25, x26, x27, x28, x29, x30], defers := Ds.map markD } ∧ Marks (s + 5) V Ds ∧ Blk V s 27 #[.int .i64 m, .int .i64 e, .slice (some ⟨b1, o1, none⟩) la ca, .slice (some ⟨b2, o2, none⟩) lb cb] ∧ Blk V (s + 1) 118 (setP p) ∧ Blk V (s + 2) 118 (setP q) ∧ Blk V (s + 3) 118 (setP fun _ => false) ∧ Blk V (s + 4) 118 (setP (colK m P p q k)) ∧ Below s w V) (fun a' _ => m - (intOf (a'.tmps.getD 12 undef)).toNat) ?_ ?_
  · exact ⟨0, [], undef, undef, undef, undef, undef, undef, undef, undef, undef, undef, undef, undef, undef, undef, undef, undef, undef, undef, undef, undef, Nat.zero_le _, rfl, Marks.nil, K0.out, K1.out, K2.out, K3.out, by rw [colK_zero]; exact K4.out, B0.out⟩
  · rintro _ V ⟨k, Ds, x8, x9, x13, x14, x15, x16, x17, x18, x19, x20, x21, x22, x23, x24, x25, x26, x27, x28, x29, x30, hk, rfl, hM, h0, h1, h2, h3, h4, hB⟩
    have HM := Lib.hid hM
    have H0 := Lib.hid h0
    have H1 := Lib.hid h1
    have H2 := Lib.hid h2
    have H3 := Lib.hid h3
    have H4 := Lib.hid h4
    have HB := Lib.hid hB
    have sV := hB.size
    clear c0 c1 c2 c3
    clear hM h0 h1 h2 h3 h4 hB
    by_cases hlt : k < m
    · obtain ⟨c0, c1, c2, c3⟩ := blk4 (H0.out.alloc (.cells #[.int .i64 (k : Int)] 3))
      gi_wp2_with (first
        | (refine wpListIn_load_rowW rfl 118 (.tmp 5) rfl (s + 2) rfl _ (setP q) (0, 0) _ (H2.out.alloc _) Try.underlying118 rfl hiq ?_)
        | (refine ⟨trivial, ?_⟩; gi_at_call 69; refine (callsIn_wide.2 (where_any m e _ _ la ca lb cb 122 #[.agg (setP q)] _)).mono ?_; rintro e1 w1 ⟨rfl, hB1, hB2, hb1⟩; clear c0 c1 c2 c3))
      simp only [World.size_alloc] at hB1 hB2 hb1
      have bx : Below V.heap.size V w1 := ((Below.refl _ _).alloc (Nat.le_refl _) _).trans (hb1.mono (by omega))
      obtain ⟨gx, hgx⟩ : ∃ g, V.heap.size = g := ⟨_, rfl⟩
      have hX1 : Blk w1 gx 3 #[.int .i64 (k : Int)] := by
        have := (Blk.new V 3 #[.int .i64 (k : Int)])
        rw [hgx] at this
        exact (hb1.block gx (by omega)).trans this
      rw [hgx] at hB1 hB2
      have SQ := Lib.hid (where_B' w1.heap.size m _ q _ _ w1 hm' EGH.out hB1 rfl hB2 (Nat.le_refl _) (fun a ha V' hV => hasP_any q a V' (by omega)))
      have J0 := Lib.hid (H0.out.next bx)
      have J1 := Lib.hid (H1.out.next bx)
      have J2 := Lib.hid (H2.out.next bx)
      have J3 := Lib.hid (H3.out.next bx)
      have J4 := Lib.hid (H4.out.next bx)
      have JM := Lib.hid (HM.out.next bx)
      have JL := Lib.hid (HM.out.lt)
      have JB := Lib.hid (HB.out.trans (bx.mono (by omega)))
      have JX := Lib.hid hX1
      have s1 := bx.size
      have l4 := H4.out.lt
      rw [hgx] at s1 JL l4 ⊢
      clear hB1 hB2 hb1 bx hX1
      refine wpIn_rangeFunc_ownH rfl (by omega) (gf := 113) (lb := #[.pointer (some ⟨gx + 1, 0, none⟩), .pointer (some ⟨gx + 1 + 1, 0, none⟩)]) rfl trivial EGW.out SQ.out belowK_t (belowK_b (Nat.le_refl _)) (Below.refl _ _) (fun _ => rfl)
        (fun pre V' => (∀ y ∈ finN pre, p (P (k * m + y)) = true) ∧ Below w1.heap.size w1 V')
        (fun c pre V' => (c = .exit 1 ∧ ∃ y ∈ finN pre, p (P (k * m + y)) = false) ∧ Below w1.heap.size w1 V')
        (OwnFrom.and (ownFrom_pure _ _) (ownFrom_below (Nat.le_refl _) (Nat.le_refl _)))
        (fun c => OwnFrom.and (ownFrom_pure _ _) (ownFrom_below (Nat.le_refl _) (Nat.le_refl _)))
        ⟨fun y hy => absurd hy (by simp [finN]), Below.refl _ _⟩
        (fun y a'' _ => a'' = { tmps := #[.agg #[.int .i64 m, .int .i64 e, .slice (some ⟨b1, o1, none⟩) la ca, .slice (some ⟨b2, o2, none⟩) lb cb], .agg (setP p), .agg (setP q), .pointer (some ⟨s, 0, none⟩), .pointer (some ⟨s + 1, 0, none⟩), .pointer (some ⟨s + 2, 0, none⟩), .pointer (some ⟨s + 3, 0, none⟩), .pointer (some ⟨s + 4, 0, none⟩), .pointer (some ⟨gx, 0, none⟩), .int .i64 (y.1 : Int), .pointer (some ⟨s, 0, none⟩), .int .i64 m, .int .i64 k, .bool true, .int .i64 k, .agg #[.int .i64 m, .int .i64 e, .slice (some ⟨b1, o1, none⟩) la ca, .slice (some ⟨b2, o2, none⟩) lb cb], .agg (setP q), .func (.func 122) #[.agg (setP q)] #[], .func (.func 113) #[] #[.pointer (some ⟨gx + 1, 0, none⟩), .pointer (some ⟨gx + 1 + 1, 0, none⟩)], .int .i64 (y.1 : Int), x20, x21, x22, x23, x24, x25, x26, x27, x28, x29, x30], defers := [] })
        (fun _ _ _ _ _ _ hs _ _ => hs)
        ?assign ?body ?done ?stop
      case assign =>
        rintro l pre y V' K hi hK
        have HI := Lib.hid hi
        clear hi
        gi_wp2
        exact hK _ _ (KeepsFrom.refl _ _) (Below.refl _ _) HI.out rfl
      case body =>
        rintro l pre y a'' V' _ _ ⟨hpa, hBW⟩ rfl hlt2
        have L0 := Lib.hid (J0.out.next hBW)
        have L1 := Lib.hid (J1.out.next hBW)
        have LB := Lib.hid (JB.out.trans (hBW.mono (by omega)))
        have LR := Lib.hid (HR0.out.next (HS.out ▸ LB.out))
        have LI := Lib.hid L1.out.inC
        have LP := Lib.hid hpa
        have LW := Lib.hid hBW
        have d0 := (JX.out.next hBW).cell 0
        simp at d0
        obtain ⟨c0, c1, c2, c3⟩ := blk4 L0.out
        have hlp := HPl.out k y.1 hlt y.2
        have hszV := hBW.size
        obtain ⟨b, hb⟩ : ∃ b, p (P (k * m + y.1)) = b := ⟨_, rfl⟩
        have HBB := Lib.hid hb
        clear hBW hpa hb
        gi_wp2_with (fail)
        refine wpIn_region_extR (by kernel_rfl) (by kernel_rfl) (by kernel_rfl) ?_
        repeat (first
          | (refine wpQuiet_load_row rfl 118 (.tmp 4) rfl (s + 1) rfl _ (setP p) _ LI.out Try.underlying118 rfl hip ?_; go_simp)
          | (go_big_quiet_step ((first
              | (go_at_call 67; exact calls_ext (product_any k y.1 m e b1 o1 la ca b2 o2 lb cb S P _ (LR.out.next (ext_below _ _)) hlt y.2))
              | (go_at_call 122; exact calls_ext (has2_val p _ b _ (by omega) HBB.out))))))
        refine wpQuiet_nil ?_
        intro V2 hb3
        have Q3 := Lib.hid hb3
        have s3 := hb3.size
        clear hb3 c0 c1 c2 c3 d0
        have KO := Lib.hid (KeepsOthers.of_grownBy (Go.Proofs.Ytdhjcgbaaghnoaa.Below.grown_ Q3.out) (fun j o ej _ => by cases ej))
        cases b
        · gi_wp2
          exact ⟨KO.out.from _, ⟨rfl, y.1, by simp [finN], HBB.out⟩, LW.out.trans (Q3.out.mono hszV)⟩
        · gi_wp2
          refine ⟨KO.out.from _, Q3.out.mono hszV, fun z hz' => ?_, LW.out.trans (Q3.out.mono hszV)⟩
          simp only [finN, List.map_append, List.map_cons, List.map_nil, List.mem_append, List.mem_singleton] at hz'
          rcases hz' with h | rfl
          · exact LP.out z h
          · exact HBB.out
      case done =>
        rintro D zs V' hD rfl ⟨hpa, hBW⟩ hK
        have HCB := Lib.hid (show colB m P p q k = true from colB_iff.2 fun y hy => hpa y (lst_in.2 ⟨HQL.out y hy, hy⟩))
        have M4 := Lib.hid (J4.out.next hBW)
        have M0 := Lib.hid (J0.out.next hBW)
        have M1 := Lib.hid (J1.out.next hBW)
        have M2 := Lib.hid (J2.out.next hBW)
        have M3 := Lib.hid (J3.out.next hBW)
        have MB := Lib.hid (JB.out.trans (hBW.mono (by omega)))
        have MM := Lib.hid ((JM.out.next hBW).cons (fun h => by have := JL.out D h; omega) (by omega) hK)
        have d0 := (JX.out.next hBW).cell 0
        simp at d0
        clear hpa hBW hK
        gi_wp2_with (refine ⟨trivial, ?_⟩; gi_at_call 138; refine (callsIn_wide.2 (putP_any (s + 4) k (colK m P p q k) V' M4.out (by omega))).mono ?_; rintro e5 w5 ⟨⟨v5, rfl⟩, rfl⟩)
        rw [show ((k : Int) + 1) = ((k + 1 : Nat) : Int) by omega]
        refine ⟨⟨k + 1, D :: Ds, _, _, _, _, _, _, _, _, _, _, _, _, _, _, _, _, _, _, _, _, by omega, rfl, MM.out.set_ (by omega) _ _, M0.out.far (p := ⟨s + 4, k, none⟩) (by show s ≠ s + 4; omega) _, M1.out.far (p := ⟨s + 4, k, none⟩) (by show s + 1 ≠ s + 4; omega) _, M2.out.far (p := ⟨s + 4, k, none⟩) (by show s + 2 ≠ s + 4; omega) _, M3.out.far (p := ⟨s + 4, k, none⟩) (by show s + 3 ≠ s + 4; omega) _, ?_, MB.out.setCell (p := ⟨s + 4, k, none⟩) (by show s ≤ s + 4; omega) _⟩, ?_⟩
        · rw [← colK_yes HCB.out]; exact M4.out.put
        · simp [intOf]; omega
      case stop =>
        rintro D c pre V' hD hpre ⟨⟨rfl, y, hy, hpy⟩, hBW⟩ hK
        have HCB := Lib.hid (show colB m P p q k = false from by
          rw [Bool.eq_false_iff]
          intro h
          have h1 : y ∈ finN (selTo m q m) := by
            simp only [finN, List.mem_map] at hy ⊢
            obtain ⟨z, hz1, hz2⟩ := hy
            exact ⟨z, hpre.subset hz1, hz2⟩
          have := colB_iff.1 h y (lst_in.1 h1).2
          rw [hpy] at this
          cases this)
        have M4 := Lib.hid (J4.out.next hBW)
        have M0 := Lib.hid (J0.out.next hBW)
        have M1 := Lib.hid (J1.out.next hBW)
        have M2 := Lib.hid (J2.out.next hBW)
        have M3 := Lib.hid (J3.out.next hBW)
        have MB := Lib.hid (JB.out.trans (hBW.mono (by omega)))
        have MM := Lib.hid ((JM.out.next hBW).cons (fun h => by have := JL.out D h; omega) (by omega) hK)
        clear hy hpy hpre hBW hK
        gi_wp2
        rw [show ((k : Int) + 1) = ((k + 1 : Nat) : Int) by omega]
        refine ⟨⟨k + 1, D :: Ds, _, _, _, _, _, _, _, _, _, _, _, _, _, _, _, _, _, _, _, _, by omega, rfl, MM.out, M0.out, M1.out, M2.out, M3.out, ?_, MB.out⟩, ?_⟩
        · rw [colK_no HCB.out]; exact M4.out
        · simp [intOf]; omega
    · have hkm : k = m := by omega
      subst hkm
      obtain ⟨S', hS'⟩ : ∃ S', setP (colK k P p q k) = S' := ⟨_, rfl⟩
      have hs1 : S'.size = 16 := by rw [← hS', setP_size]
      have hs2 : S'.all (·.oneCell') = true := by rw [← hS']; exact setP_one
      have hi := set_info hs1
      have hold : (setP fun _ => false).size = S'.size := by rw [hs1, setP_size]
      have h4 := H4.out
      rw [hS'] at h4
      have HSS := Lib.hid hS'
      have lM := HM.out
      clear hS'
      gi_wp2_with (first
        | (refine wpListIn_load_rowW rfl 118 (.tmp 7) rfl (s + 4) rfl _ S' (0, 0) _ h4 Try.underlying118 rfl hi ?_)
        | (refine wpListIn_store_rowW rfl 118 (.tmp 6) (.tmp 30) rfl (s + 3) S' rfl rfl _ (setP fun _ => false) H3.out hi hold hs2 ?_))
      have hB2 : Below s w (V.setRow (s + 3) S') := below_setRow HB.out (by omega) S'
      have hMR : Marks (s + 5) (V.setRow (s + 3) S') Ds := ⟨lM.1, fun D hD => ⟨(lM.2 D hD).1, (setRow_other V (s + 3) D S' (by have := (lM.2 D hD).1; omega)).trans (lM.2 D hD).2⟩⟩
      have hR : (V.setRow (s + 3) S').heap[s + 3]? = some (.cells S' 118 (0, 0)) := setRow_heap V (s + 3) _ S' _ _ H3.out
      refine leaves_marks Ds _ hMR (fun w' hw' => ?_)
      exact ⟨_, results_cell_row Try.results91 _ _ (s + 3) 118 S' (0, 0) _ rfl ((hw'.block (s + 3) (by omega)).trans hR) Try.underlying118 rfl hi, by rw [HSS.out], hB2.trans (hw'.mono (by omega))⟩

end Go.Proofs.Ytdhjcgbaaghnoaa


/- ColonIdeal of the program. -/
namespace Go.Proofs.Ytdhjcgbaaghnoaa
open Go.RowKit Go.Shelf
set_option maxRecDepth 100000
attribute [local go_sem] Oper.semAt_some

theorem col_from {n o : Int} {X Y L K : List Int} : fromL n o X Y L K (colK n.toNat (tabOf Y) (setL L) (setL K) n.toNat) = colL n o X Y L K := by
  unfold colL
  cases h : twoI n o X Y L K
  · rw [fromL_no h, fromL_no h]
  · rw [fromL_yes h, fromL_yes h]
    exact lst_congr fun i hi => by unfold colK; rw [decide_eq_true hi]; rfl
theorem colI_comb {n o : Int} {A B : Option Addr} {la ca lb cb : Nat} {X Y L K : List Int} {w V : World} (hX : Ints w w.heap.size A la X) (hY : Ints w w.heap.size B lb Y) (hca : la ≤ ca) (hcb : lb ≤ cb) (h : twoI n o X Y L K = true) (hV : Below w.heap.size w V) :
    Calls Try.prog 91 #[.agg #[.int .i64 n, .int .i64 o, .slice A la ca, .slice B lb cb], .agg (setP (setL L)), .agg (setP (setL K))] V fun e' w' => e' = .returned (.agg (setP (colK n.toNat (tabOf Y) (setL L) (setL K) n.toNat))) ∧ Below V.heap.size V w' := by
  obtain ⟨m, e, b1, o1, b2, o2, rfl, rfl, rfl, rfl, hr, _, _, _, _, _⟩ := valid_data (ide_data (isId_ide (two_data h).1)).1 (hX.next hV) (hY.next hV) hca hcb
  obtain ⟨hv, hi, _⟩ := isId_data (two_data h).1
  obtain ⟨_, hj, _⟩ := isId_data (two_data h).2
  have R := rtab_of_valid hv
  try simp only [Int.toNat_natCast]
  exact idealColon_any (setL L) (setL K) m e b1 o1 la ca b2 o2 lb cb (tabOf X) (tabOf Y) V hr hj.lt
set_option maxHeartbeats 2000000 in
theorem colI_any (n o : Int) (A B C D : Option Addr) (la ca lb cb len len' cap cap' : Nat) (X Y L K : List Int) (w : World) (hX : Ints w w.heap.size A la X) (hY : Ints w w.heap.size B lb Y) (hL : Ints w w.heap.size C len L) (hK : Ints w w.heap.size D len' K) (hla : la ≤ 9223372036854775807) (hlb : lb ≤ 9223372036854775807) (hlen : len ≤ 9223372036854775807) (hlen' : len' ≤ 9223372036854775807) (hca : la ≤ ca) (hcb : lb ≤ cb) :
    Calls Try.prog 46 #[.agg #[.int .i64 n, .int .i64 o, .slice A la ca, .slice B lb cb], .slice C len cap, .slice D len' cap'] w fun e' w' => ∃ v, e' = .returned (.tuple #[v, .bool (twoI n o X Y L K)]) ∧ SliceOut w.heap.size w' v (colL n o X Y L K) ∧ Below w.heap.size w w' := by
  obtain ⟨W, hW⟩ : ∃ W, w.alloc (.cells #[.int .i64 n, .int .i64 o, .slice A la ca, .slice B lb cb] 27) = W := ⟨_, rfl⟩
  have b0 : Below w.heap.size w W := by
    subst hW; exact (Below.refl _ _).alloc (Nat.le_refl _) _
  have k0 : Blk W w.heap.size 27 #[.int .i64 n, .int .i64 o, .slice A la ca, .slice B lb cb] := by
    subst hW; exact Blk.new w _ _
  obtain ⟨c0, c1, c2, c3⟩ := blk4 k0
  have HX := Lib.hid (hX.next b0)
  have HY := Lib.hid (hY.next b0)
  have HL := Lib.hid (hL.next b0)
  have HK := Lib.hid (hK.next b0)
  have B0 := Lib.hid b0
  have HW := Lib.hid hW
  have hs0 := b0.size
  have EG := Lib.hid (enters_of Try.func91 (by kernel_rfl) rfl)
  clear hX hY hL hK b0 hW k0
  go_enter Try.func46, Try.ntmps46
  go_wp2_with (fail)
  rw [HW.out]
  refine (fromIdeals_any 91 _ n o A B C D la ca lb cb len cap len' cap' X Y L K W HX.out HY.out HL.out HK.out hla hlb hlen hlen' hca hcb EG.out (fun h V hV => colI_comb HX.out HY.out hca hcb h hV)).mono ?_
  rintro e1 w1 ⟨v, rfl, ho, hb1⟩
  have HO := Lib.hid ho
  have B1 := Lib.hid (below_step B0.out hb1)
  clear ho hb1 c0 c1 c2 c3
  go_wp2
  go_ret2
  refine ⟨v, rfl, ?_, B1.out⟩
  rw [← col_from]
  exact HO.out.down hs0

end Go.Proofs.Ytdhjcgbaaghnoaa


/- ColonIdeal of the reading side. -/
namespace Go.Proofs.Ytdhjcgbaaghnoaa
open Go.RowKit Go.Shelf
set_option maxRecDepth 100000

set_option maxHeartbeats 8000000 in
theorem scolI_any (n o : Int) (A B C D : Option Addr) (la ca lb cb len len' cap cap' : Nat) (X Y L K : List Int) (w : World) (hX : Ints w w.heap.size A la X) (hY : Ints w w.heap.size B lb Y) (hL : Ints w w.heap.size C len L) (hK : Ints w w.heap.size D len' K) (hla : la ≤ 9223372036854775807) (hlb : lb ≤ 9223372036854775807) (hlen : len ≤ 9223372036854775807) (hlen' : len' ≤ 9223372036854775807) (hca : la ≤ ca) (hcb : lb ≤ cb) :
    Calls Try.prog 47 #[.agg #[.int .i64 n, .int .i64 o, .slice A la ca, .slice B lb cb], .slice C len cap, .slice D len' cap'] w fun e' w' => ∃ v, e' = .returned (.tuple #[v, .bool (twoI n o X Y L K)]) ∧ SliceOut w.heap.size w' v (colL n o X Y L K) ∧ Below w.heap.size w w' := by
  obtain ⟨i0, hi, hz0, hz1, hz2⟩ := info_parts int_info
  obtain ⟨W, hW⟩ : ∃ W, (w.alloc (.cells #[.int .i64 n, .int .i64 o, .slice A la ca, .slice B lb cb] 27)).alloc (.cells #[] 3) = W := ⟨_, rfl⟩
  have k0 : Blk W w.heap.size 27 #[.int .i64 n, .int .i64 o, .slice A la ca, .slice B lb cb] := by
    subst hW; exact (Blk.new w _ _).alloc _
  have b0 : Below w.heap.size w W := by
    subst hW; exact ((Below.refl _ _).alloc (Nat.le_refl _) _).alloc (by simp) _
  have o0 : W.ownsRow w.heap.size 3 1 (.slice (some ⟨w.heap.size + 1, 0, none⟩) 0 0) 0 [] := by
    subst hW
    have := own_lit_K (w := w.alloc (.cells #[.int .i64 n, .int .i64 o, .slice A la ca, .slice B lb cb] 27)) (base := w.heap.size) (e := 3) [] (by simp) (by unfold maxLen; simp)
    simpa using this
  have k0' : Blk ((w.alloc (.cells #[.int .i64 n, .int .i64 o, .slice A la ca, .slice B lb cb] 27)).alloc (.cells #[] 3)) w.heap.size 27 #[.int .i64 n, .int .i64 o, .slice A la ca, .slice B lb cb] := by rw [hW]; exact k0
  obtain ⟨c0, c1, c2, c3⟩ := blk4 k0'
  clear k0'
  have HX0 := Lib.hid hX
  have HY0 := Lib.hid hY
  have HL0 := Lib.hid hL
  have HK0 := Lib.hid hK
  have B0 := Lib.hid b0
  have HW := Lib.hid hW
  have K0 := Lib.hid k0
  have O0 := Lib.hid o0
  have hs0 := k0.lt
  clear hX hY hL hK b0 hW k0 o0
  cases ht : twoI n o X Y L K
  · have hz := Lib.hid ht
    have HT := Lib.hid ht
    clear ht
    go_enter Try.func47, Try.ntmps47
    go_wp2
    go_step3
    go_wp2_with (fail)
    rw [HW.out]
    refine (l4Two_val HT.out (HX0.out.next B0.out) (HY0.out.next B0.out) (HL0.out.next B0.out) (HK0.out.next B0.out) hla hlb hlen hlen' hca hcb).mono ?_
    rintro e1 w1 ⟨rfl, hb1⟩
    obtain ⟨d0, d1, d2, d3⟩ := blk4 (K0.out.next hb1)
    clear c0 c1 c2 c3
    go_wp2
    rw [Exit.noGoto_ret]
    go_ret2
    refine ⟨_, by rfl, ?_, below_step B0.out hb1⟩
    rw [show colL n o X Y L K = [] from fromL_no hz.out]
    exact SliceOut.of_row (n := 0) (own_nextK O0.out hb1) rfl (by omega)
  · have HT := Lib.hid ht
    have hz := Lib.hid ht
    obtain ⟨m, e, b1, o1, b2, o2, rfl, rfl, rfl, rfl, hr, _, _, _, _, _⟩ := valid_data (ide_data (isId_ide (two_data ht).1)).1 HX0.out HY0.out hca hcb
    obtain ⟨hv, hpI, hpL⟩ := isId_data (two_data ht).1
    have R := rtab_of_valid hv
    obtain ⟨p, hp⟩ : ∃ p, setL L = p := ⟨_, rfl⟩
    rw [hp] at hpL hpI
    have hpl := hpI.lt
    have HPP := Lib.hid hp
    have HL1 := Lib.hid (show Ints w w.heap.size C len (lstP m p) from hpL ▸ HL0.out)
    have HLN := Lib.hid (show (selTo m p m).length = len by rw [← HL1.out.1, lst_len])
    obtain ⟨_, hqI, hqL⟩ := isId_data (two_data ht).2
    obtain ⟨q, hq⟩ : ∃ q, setL K = q := ⟨_, rfl⟩
    rw [hq] at hqL hqI
    have hql := hqI.lt
    have HQQ := Lib.hid hq
    have HK1 := Lib.hid (show Ints w w.heap.size D len' (lstP m q) from hqL ▸ HK0.out)
    have HKN := Lib.hid (show (selTo m q m).length = len' by rw [← HK1.out.1, lst_len])
    clear hqL hq hqI
    have hm' := hr.hm'
    have HR0 := Lib.hid hr
    have HPI := Lib.hid hpI
    have len16 : len ≤ 16 := by rw [← HLN.out]; exact Nat.le_trans (selTo_len m) hm'
    clear hpL hp hr ht hv hpI
    have HFL := Lib.hid (show colL m e X Y L K = finI (selTo m (colB m (tabOf Y) p q) m) by unfold colL; rw [fromL_yes hz.out, Int.toNat_natCast, HPP.out, HQQ.out]; rfl)
    go_enter Try.func47, Try.ntmps47
    go_wp2
    go_step3
    go_wp2_with (fail)
    rw [HW.out]
    refine (l4Two_val HT.out (HX0.out.next B0.out) (HY0.out.next B0.out) (HL0.out.next B0.out) (HK0.out.next B0.out) hla hlb hlen hlen' hca hcb).mono ?_
    rintro e1 w1 ⟨rfl, hb1⟩
    obtain ⟨d0, d1, d2, d3⟩ := blk4 (K0.out.next hb1)
    have K1 := Lib.hid (K0.out.next hb1)
    have O1 := Lib.hid (own_nextK O0.out hb1)
    have B1 := Lib.hid (below_step B0.out hb1)
    have s1 := hb1.size
    clear hb1 c0 c1 c2 c3 d0 d1 d2 d3
    obtain ⟨c0, c1, c2, c3⟩ := blk4 K1.out
    obtain ⟨j, hj⟩ : ∃ j, colB m (tabOf Y) p q = j := ⟨_, rfl⟩
    have HJ := Lib.hid (show ∀ k, j k = true ↔ ∀ y, q y = true → p (tabOf Y (k * m + y)) = true from fun k => by rw [← hj]; exact colB_iff)
    rw [hj] at HFL
    clear hj
    go_wp2
    go_step3
    go_wp2
    go_loopg [8, 21] m (fun g vs vi wr => ∃ k : Nat, k ≤ m ∧ m ≤ k + g ∧ vi = .int .i64 k ∧ wr.ownsRow w.heap.size 3 1 vs (selTo m j k).length (finV (selTo m j k)) ∧ Below w.heap.size w wr ∧ Blk wr w.heap.size 27 #[.int .i64 m, .int .i64 e, .slice (some ⟨b1, o1, none⟩) la ca, .slice (some ⟨b2, o2, none⟩) lb cb])
    case atStart => exact ⟨0, Nat.zero_le _, by omega, rfl, O1.out, B1.out, K1.out⟩
    case round =>
      obtain ⟨k, hk, hg, rfl, hown, hb, hbk⟩ := hrel
      have hsz := hb.size
      have OW := Lib.hid hown
      have BW := Lib.hid hb
      have KW := Lib.hid hbk
      clear hown hb hbk c0 c1 c2 c3
      have hln := selTo_len (m := m) (p := j) k
      by_cases hlt : k < m
      · go_wp2
        go_loopg [26] len' (fun g2 vi wr2 => ∃ y : Nat, y ≤ len' ∧ len' ≤ y + g2 ∧ vi = .int .i64 y ∧ (∀ u ∈ (finN (selTo m q m)).take y, p (tabOf Y (k * m + u)) = true) ∧ Below wr.heap.size wr wr2)
        case atStart => exact ⟨0, Nat.zero_le _, by omega, rfl, fun u hu => by simp at hu, Below.refl _ _⟩
        case round =>
          obtain ⟨y, hy, hg2, rfl, hall, hb2⟩ := hrel
          have BX := Lib.hid hb2
          have KX := Lib.hid (KW.out.next hb2)
          have OX := Lib.hid (own_nextK OW.out hb2)
          have BY := Lib.hid (below_step BW.out hb2)
          have HALL := Lib.hid hall
          have hsz2 := BY.out.size
          obtain ⟨c0, c1, c2, c3⟩ := blk4 KX.out
          clear hb2 hall
          by_cases hlt2 : y < len'
          · have hyL : y < (selTo m q m).length := by rw [HKN.out]; exact hlt2
            obtain ⟨b', off', rfl, hb1', hc'⟩ := HK1.out.at_ hlt2
            obtain ⟨u, hu, hu1, hu2⟩ := finI_get (l := selTo m q m) (k := y) hyL
            have hck' : wr.cell? ⟨b', off' + y, none⟩ = some (.int .i64 (u : Int)) := by
              rw [BY.out.cell (p := ⟨b', off' + y, none⟩) hb1', hc']
              unfold lstP
              rw [hu1]
            have HU2 := Lib.hid hu2
            have RX := Lib.hid (HR0.out.next BY.out)
            have hqu : q u = true := by
              have h1 : u ∈ finN (selTo m q m) := by
                have e1 : (finN (selTo m q m)).take (y + 1) = (finN (selTo m q m)).take y ++ [u] := hu2
                have h2 : u ∈ (finN (selTo m q m)).take (y + 1) := by rw [e1]; simp
                exact List.mem_of_mem_take h2
              exact (lst_in.1 h1).2
            have HQU := Lib.hid hqu
            clear hc' hu1 hu2 hqu
            go_wp2_with (fail)
            refine (l1Mul_any k u m e b1 o1 la ca b2 o2 lb cb (tabOf X) (tabOf Y) _ RX.out hlt hu).mono ?_
            rintro e3 w3 ⟨rfl, hb3⟩
            have B3 := Lib.hid (below_step BX.out hb3)
            have BW3 := Lib.hid (below_step BW.out B3.out)
            have s3 := BW3.out.size
            have HL3 := Lib.hid (HL1.out.next BW3.out)
            have HK3 := Lib.hid (KW.out.next B3.out)
            have HO3 := Lib.hid (own_nextK OW.out B3.out)
            obtain ⟨v, hv⟩ : ∃ v, tabOf Y (k * m + u) = v := ⟨_, rfl⟩
            have HVV := Lib.hid hv
            rw [hv]
            clear hb3 c0 c1 c2 c3 hck' hv
            cases hpv : p v
            · have HPV := Lib.hid hpv
              have hjk : j k = false := by
                cases hh : j k
                · rfl
                · have := (HJ.out k).1 hh u HQU.out
                  rw [HVV.out, hpv] at this
                  cases this
              have HQ := Lib.hid (selTo_no (m := m) hjk)
              clear hpv hjk
              go_wp2_with (first
                | (go_at_call 75; refine (l4HasP_any _ len cap m p v _ _ hpl HL3.out hlen).mono ?_; rw [HPV.out]; rintro e4 w4 ⟨rfl, rfl⟩))
              go_roundg (m - (k + 1))
              case measure => omega
              case rel => exact ⟨k + 1, by omega, by omega, by go_num, by rw [HQ.out]; exact HO3.out, BW3.out, HK3.out⟩
            · have HPV := Lib.hid hpv
              clear hpv
              go_wp2_with (first
                | (go_at_call 75; refine (l4HasP_any _ len cap m p v _ _ hpl HL3.out hlen).mono ?_; rw [HPV.out]; rintro e4 w4 ⟨rfl, rfl⟩))
              go_roundg (len' - (y + 1))
              case measure => omega
              case rel =>
                refine ⟨y + 1, by omega, by omega, by go_num, fun u' hu' => ?_, B3.out⟩
                rw [HU2.out, List.mem_append, List.mem_singleton] at hu'
                rcases hu' with h1 | rfl
                · exact HALL.out u' h1
                · rw [HVV.out]; exact HPV.out
          · have hym : y = len' := by omega
            subst hym
            have hjk : j k = true := (HJ.out k).2 fun x hx => by
              have h1 : x ∈ finN (selTo m q m) := lst_in.2 ⟨hql x hx, hx⟩
              have e0 : (finN (selTo m q m)).take y = finN (selTo m q m) := List.take_of_length_le (by have := HKN.out; simp [finN]; omega)
              exact HALL.out x (by rw [e0]; exact h1)
            have HQ := Lib.hid (selTo_yes (m := m) hlt hjk)
            have wr2 : Below wr.heap.size wr (wr.alloc (.cells #[.int .i64 (k : Int)] 3)) := (Below.refl _ _).alloc (Nat.le_refl _) _
            clear hjk c0 c1 c2 c3
            go_wp2_with (at_builtin; refine wpList_append_own _ rfl _ _ 22 rfl w.heap.size 3 i0 (.int .i64 0) 1 8 Try.underlying22 hi hz0 hz1 hz2 rfl (by decide) _ _ _ rfl (OX.out.alloc _) ⟨wr.heap.size, 0, none⟩ 1 1 [.int .i64 (k : Int)] rfl rfl (by intro i u hi; match i, hi with | 0, hi => simp at hi; subst hi; simp [Addr.add]) (by intro u hu; simp at hu; subst hu; rfl) (by unfold maxLen; omega) (by omega) (by simp; omega) ?_; intro v5 w5 hown5 hg5 _; have B5 := Lib.hid ((BY.out.trans (wr2.mono hsz2)).grown hg5 (Nat.le_trans hsz2 wr2.size) (fun k hk => (OX.out.lt k hk).1)); have KP := Lib.hid (append_keeps KX.out OX.out (by decide) hg5 hsz2).1; have O5 := Lib.hid (show w5.ownsRow w.heap.size 3 1 v5 (selTo m j (k + 1)).length (finV (selTo m j (k + 1))) by rw [HQ.out]; simpa [finV] using hown5); clear hown5 hg5)
            go_roundg (m - (k + 1))
            case measure => omega
            case rel => exact ⟨k + 1, by omega, by omega, by go_num, O5.out, B5.out, KP.out⟩
      · have hkm : k = m := by omega
        subst hkm
        go_wp2
        try rw [Exit.noGoto_ret]
        go_ret2
        refine ⟨_, by rfl, ?_, BW.out⟩
        rw [HFL.out]
        exact sel_out OW.out rfl (by omega)

end Go.Proofs.Ytdhjcgbaaghnoaa
