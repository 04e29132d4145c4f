/- Texts of this seat in one: H2 H3 H4 H5 E9. -/
import Derived.Test.YtihjnjcfiipcoaaMK
import Derived.Test.YtihjnjcfiipcoaaMJ

/- The making of pairs over rings that are there. -/
namespace Go.Proofs.Ytihjnjcfiipcoaa
open Go.RowKit
set_option maxRecDepth 100000

theorem paOne_any (m e b1 o1 la ca b2 o2 lb cb q f c1 p1 ka da c2 p2 kb db : Nat) (w : World) :
    Calls Try.prog 168 #[.agg #[.int .i64 m, .int .i64 e, .slice (some ⟨b1, o1, none⟩) la ca, .slice (some ⟨b2, o2, none⟩) lb cb, .int .i64 q, .int .i64 f, .slice (some ⟨c1, p1, none⟩) ka da, .slice (some ⟨c2, p2, none⟩) kb db]] w fun e' w' => e' = .returned (.agg #[.int .i64 e, .int .i64 f]) ∧ Below w.heap.size w w' := by
  obtain ⟨W, hW⟩ : ∃ W, (w.alloc (.cells #[.int .i64 m, .int .i64 e, .slice (some ⟨b1, o1, none⟩) la ca, .slice (some ⟨b2, o2, none⟩) lb cb, .int .i64 q, .int .i64 f, .slice (some ⟨c1, p1, none⟩) ka da, .slice (some ⟨c2, p2, none⟩) kb db] 91)).alloc (.cells #[.int .i64 0, .int .i64 0] 93) = W := ⟨_, rfl⟩
  have kP : Blk W w.heap.size 91 #[.int .i64 m, .int .i64 e, .slice (some ⟨b1, o1, none⟩) la ca, .slice (some ⟨b2, o2, none⟩) lb cb, .int .i64 q, .int .i64 f, .slice (some ⟨c1, p1, none⟩) ka da, .slice (some ⟨c2, p2, none⟩) kb db] := by subst hW; exact (Blk.new w _ _).alloc _
  have kA : Blk W (w.heap.size + 1) 93 #[.int .i64 0, .int .i64 0] := by
    subst hW
    have := Blk.new (w.alloc (.cells #[.int .i64 m, .int .i64 e, .slice (some ⟨b1, o1, none⟩) la ca, .slice (some ⟨b2, o2, none⟩) lb cb, .int .i64 q, .int .i64 f, .slice (some ⟨c1, p1, none⟩) ka da, .slice (some ⟨c2, p2, none⟩) kb db] 91)) 93 #[.int .i64 0, .int .i64 0]
    rw [World.size_alloc] at this
    exact this
  have bW : Below w.heap.size w W := by subst hW; exact ((Below.refl _ _).alloc (Nat.le_refl _) _).alloc (by simp) _
  have x1 := kP.cell 1
  have x5 := kP.cell 5
  have c0 := kA.cell 0
  have c1' := kA.cell 1
  have f0 := kA.frozen 0
  have f1 := kA.frozen 1
  simp at x1 x5 c0 c1'
  go_enter Try.func168, Try.ntmps168
  go_upto_region 1 with (fail)
  go_wp2_with (fail)
  refine bodyPost_ret (v := .agg #[.int .i64 e, .int .i64 f]) ?_ rfl ⟨rfl, ?_⟩
  · have F := (kA.set_ 0 (.int .i64 (e : Int))).set_ 1 (.int .i64 (f : Int))
    exact results_cell_row Try.results168 _ _ (w.heap.size + 1) 93 _ (0, 0) _ rfl F Try.underlying93 rfl (by kernel_rfl)
  · exact (bW.setCell (by simp) _).setCell (by simp) _

set_option maxHeartbeats 1000000 in
theorem paSum_any (m e b1 o1 la ca b2 o2 lb cb : Nat) (S P : Nat → Nat) (q f c1 p1 ka da c2 p2 kb db : Nat) (T U : Nat → Nat) (a1 a2 z1 z2 : Nat) (w : World) (hr : RingAt w m e b1 o1 la ca b2 o2 lb cb S P) (hs : RingAt w q f c1 p1 ka da c2 p2 kb db T U) (h1 : a1 < m) (h2 : z1 < m) (h3 : a2 < q) (h4 : z2 < q) :
    Calls Try.prog 170 #[.agg #[.int .i64 m, .int .i64 e, .slice (some ⟨b1, o1, none⟩) la ca, .slice (some ⟨b2, o2, none⟩) lb cb, .int .i64 q, .int .i64 f, .slice (some ⟨c1, p1, none⟩) ka da, .slice (some ⟨c2, p2, none⟩) kb db], .agg #[.int .i64 a1, .int .i64 a2], .agg #[.int .i64 z1, .int .i64 z2]] w fun e' w' => e' = .returned (.agg #[.int .i64 (S (a1 * m + z1) : Nat), .int .i64 (T (a2 * q + z2) : Nat)]) ∧ Below w.heap.size w w' := by
  obtain ⟨W, hW⟩ : ∃ W, (((w.alloc (.cells #[.int .i64 m, .int .i64 e, .slice (some ⟨b1, o1, none⟩) la ca, .slice (some ⟨b2, o2, none⟩) lb cb, .int .i64 q, .int .i64 f, .slice (some ⟨c1, p1, none⟩) ka da, .slice (some ⟨c2, p2, none⟩) kb db] 91)).alloc (.cells #[.int .i64 a1, .int .i64 a2] 93)).alloc (.cells #[.int .i64 z1, .int .i64 z2] 93)).alloc (.cells #[.int .i64 0, .int .i64 0] 93) = W := ⟨_, rfl⟩
  have kP : Blk W w.heap.size 91 #[.int .i64 m, .int .i64 e, .slice (some ⟨b1, o1, none⟩) la ca, .slice (some ⟨b2, o2, none⟩) lb cb, .int .i64 q, .int .i64 f, .slice (some ⟨c1, p1, none⟩) ka da, .slice (some ⟨c2, p2, none⟩) kb db] := by subst hW; exact (((Blk.new w _ _).alloc _).alloc _).alloc _
  have kA : Blk W (w.heap.size + 1) 93 #[.int .i64 a1, .int .i64 a2] := by
    subst hW
    have := ((Blk.new (w.alloc (.cells #[.int .i64 m, .int .i64 e, .slice (some ⟨b1, o1, none⟩) la ca, .slice (some ⟨b2, o2, none⟩) lb cb, .int .i64 q, .int .i64 f, .slice (some ⟨c1, p1, none⟩) ka da, .slice (some ⟨c2, p2, none⟩) kb db] 91)) 93 #[.int .i64 a1, .int .i64 a2]).alloc (.cells #[.int .i64 z1, .int .i64 z2] 93)).alloc (.cells #[.int .i64 0, .int .i64 0] 93)
    rw [World.size_alloc] at this
    exact this
  have kB : Blk W (w.heap.size + 1 + 1) 93 #[.int .i64 z1, .int .i64 z2] := by
    subst hW
    have := (Blk.new ((w.alloc (.cells #[.int .i64 m, .int .i64 e, .slice (some ⟨b1, o1, none⟩) la ca, .slice (some ⟨b2, o2, none⟩) lb cb, .int .i64 q, .int .i64 f, .slice (some ⟨c1, p1, none⟩) ka da, .slice (some ⟨c2, p2, none⟩) kb db] 91)).alloc (.cells #[.int .i64 a1, .int .i64 a2] 93)) 93 #[.int .i64 z1, .int .i64 z2]).alloc (.cells #[.int .i64 0, .int .i64 0] 93)
    rw [World.size_alloc, World.size_alloc] at this
    exact this
  have kC : Blk W (w.heap.size + 1 + 1 + 1) 93 #[.int .i64 0, .int .i64 0] := by
    subst hW
    have := Blk.new (((w.alloc (.cells #[.int .i64 m, .int .i64 e, .slice (some ⟨b1, o1, none⟩) la ca, .slice (some ⟨b2, o2, none⟩) lb cb, .int .i64 q, .int .i64 f, .slice (some ⟨c1, p1, none⟩) ka da, .slice (some ⟨c2, p2, none⟩) kb db] 91)).alloc (.cells #[.int .i64 a1, .int .i64 a2] 93)).alloc (.cells #[.int .i64 z1, .int .i64 z2] 93)) 93 #[.int .i64 0, .int .i64 0]
    rw [World.size_alloc, World.size_alloc, World.size_alloc] at this
    exact this
  have bW : Below w.heap.size w W := by subst hW; exact ((((Below.refl _ _).alloc (Nat.le_refl _) _).alloc (by simp) _).alloc (by simp; omega) _).alloc (by simp; omega) _
  have HR := Lib.hid (hr.next bW)
  have HS := Lib.hid (hs.next bW)
  have HW := Lib.hid hW
  clear hr hs hW
  go_enter Try.func170, Try.ntmps170
  go_upto_region 1 with (fail)
  rw [HW.out]
  refine wp_region_makers 15 (fun _ => false) (fun _ _ _ => True) (fun _ _ => True) (fun _ => undef) probe (by kernel_rfl) (by kernel_rfl) (fun _ _ _ _ _ _ => trivial) (fun _ _ _ _ _ => trivial) (fun _ _ => trivial) ?_
  intro V hV vs _
  have cW : ∃ x, extC V x := ⟨V, extC_of (Below.refl _ _)⟩
  have RV := Lib.hid (HR.out.next hV)
  have SV := Lib.hid (HS.out.next hV)
  have x0 := (kP.below hV kP.lt).cell 0
  have x1 := (kP.below hV kP.lt).cell 1
  have x2 := (kP.below hV kP.lt).cell 2
  have x3 := (kP.below hV kP.lt).cell 3
  have x4 := (kP.below hV kP.lt).cell 4
  have x5 := (kP.below hV kP.lt).cell 5
  have x6 := (kP.below hV kP.lt).cell 6
  have x7 := (kP.below hV kP.lt).cell 7
  have y0 := (kA.below hV kA.lt).cell 0
  have y1 := (kA.below hV kA.lt).cell 1
  have z0' := (kB.below hV kB.lt).cell 0
  have z1' := (kB.below hV kB.lt).cell 1
  simp at x0 x1 x2 x3 x4 x5 x6 x7 y0 y1 z0' z1'
  simp only [List.take_succ_cons, List.take_zero, List.drop_succ_cons, List.drop_zero]
  refine wpV_quiet cW 15 0 _ _ (by decide) (by decide) ?_
  simp only [List.take_succ_cons, List.take_zero, List.drop_succ_cons, List.drop_zero]
  repeat (go_big_quiet_step (first
      | (go_at_call 160; with_reducible refine calls_ext (sum_any a1 z1 m e b1 o1 la ca b2 o2 lb cb S P _ (RV.out.next (ext_below _ _)) h1 h2))
      | (go_at_call 160; with_reducible refine calls_ext (sum_any a2 z2 q f c1 p1 ka da c2 p2 kb db T U _ (SV.out.next (ext_below _ _)) h3 h4))))
  refine wpQuiet_nil ?_
  refine wpV_nil ?_
  intro w2 hb2 _ _
  have kC2 := kC.below hb2 kC.lt
  have c0 := kC2.cell 0
  have c1' := kC2.cell 1
  have f0 := kC2.frozen 0
  have f1 := kC2.frozen 1
  simp at c0 c1'
  go_wp2_with (fail)
  refine bodyPost_ret (v := .agg #[.int .i64 (S (a1 * m + z1) : Nat), .int .i64 (T (a2 * q + z2) : Nat)]) ?_ rfl ⟨rfl, ?_⟩
  · have F := (kC2.set_ 0 (.int .i64 (S (a1 * m + z1) : Nat))).set_ 1 (.int .i64 (T (a2 * q + z2) : Nat))
    exact results_cell_row Try.results170 _ _ (w.heap.size + 1 + 1 + 1) 93 _ (0, 0) _ rfl F Try.underlying93 rfl (by kernel_rfl)
  · exact ((bW.trans (hb2.mono bW.size)).setCell (by simp; omega) _).setCell (by simp; omega) _

set_option maxHeartbeats 1000000 in
theorem paProduct_any (m e b1 o1 la ca b2 o2 lb cb : Nat) (S P : Nat → Nat) (q f c1 p1 ka da c2 p2 kb db : Nat) (T U : Nat → Nat) (a1 a2 z1 z2 : Nat) (w : World) (hr : RingAt w m e b1 o1 la ca b2 o2 lb cb S P) (hs : RingAt w q f c1 p1 ka da c2 p2 kb db T U) (h1 : a1 < m) (h2 : z1 < m) (h3 : a2 < q) (h4 : z2 < q) :
    Calls Try.prog 169 #[.agg #[.int .i64 m, .int .i64 e, .slice (some ⟨b1, o1, none⟩) la ca, .slice (some ⟨b2, o2, none⟩) lb cb, .int .i64 q, .int .i64 f, .slice (some ⟨c1, p1, none⟩) ka da, .slice (some ⟨c2, p2, none⟩) kb db], .agg #[.int .i64 a1, .int .i64 a2], .agg #[.int .i64 z1, .int .i64 z2]] w fun e' w' => e' = .returned (.agg #[.int .i64 (P (a1 * m + z1) : Nat), .int .i64 (U (a2 * q + z2) : Nat)]) ∧ Below w.heap.size w w' := by
  obtain ⟨W, hW⟩ : ∃ W, (((w.alloc (.cells #[.int .i64 m, .int .i64 e, .slice (some ⟨b1, o1, none⟩) la ca, .slice (some ⟨b2, o2, none⟩) lb cb, .int .i64 q, .int .i64 f, .slice (some ⟨c1, p1, none⟩) ka da, .slice (some ⟨c2, p2, none⟩) kb db] 91)).alloc (.cells #[.int .i64 a1, .int .i64 a2] 93)).alloc (.cells #[.int .i64 z1, .int .i64 z2] 93)).alloc (.cells #[.int .i64 0, .int .i64 0] 93) = W := ⟨_, rfl⟩
  have kP : Blk W w.heap.size 91 #[.int .i64 m, .int .i64 e, .slice (some ⟨b1, o1, none⟩) la ca, .slice (some ⟨b2, o2, none⟩) lb cb, .int .i64 q, .int .i64 f, .slice (some ⟨c1, p1, none⟩) ka da, .slice (some ⟨c2, p2, none⟩) kb db] := by subst hW; exact (((Blk.new w _ _).alloc _).alloc _).alloc _
  have kA : Blk W (w.heap.size + 1) 93 #[.int .i64 a1, .int .i64 a2] := by
    subst hW
    have := ((Blk.new (w.alloc (.cells #[.int .i64 m, .int .i64 e, .slice (some ⟨b1, o1, none⟩) la ca, .slice (some ⟨b2, o2, none⟩) lb cb, .int .i64 q, .int .i64 f, .slice (some ⟨c1, p1, none⟩) ka da, .slice (some ⟨c2, p2, none⟩) kb db] 91)) 93 #[.int .i64 a1, .int .i64 a2]).alloc (.cells #[.int .i64 z1, .int .i64 z2] 93)).alloc (.cells #[.int .i64 0, .int .i64 0] 93)
    rw [World.size_alloc] at this
    exact this
  have kB : Blk W (w.heap.size + 1 + 1) 93 #[.int .i64 z1, .int .i64 z2] := by
    subst hW
    have := (Blk.new ((w.alloc (.cells #[.int .i64 m, .int .i64 e, .slice (some ⟨b1, o1, none⟩) la ca, .slice (some ⟨b2, o2, none⟩) lb cb, .int .i64 q, .int .i64 f, .slice (some ⟨c1, p1, none⟩) ka da, .slice (some ⟨c2, p2, none⟩) kb db] 91)).alloc (.cells #[.int .i64 a1, .int .i64 a2] 93)) 93 #[.int .i64 z1, .int .i64 z2]).alloc (.cells #[.int .i64 0, .int .i64 0] 93)
    rw [World.size_alloc, World.size_alloc] at this
    exact this
  have kC : Blk W (w.heap.size + 1 + 1 + 1) 93 #[.int .i64 0, .int .i64 0] := by
    subst hW
    have := Blk.new (((w.alloc (.cells #[.int .i64 m, .int .i64 e, .slice (some ⟨b1, o1, none⟩) la ca, .slice (some ⟨b2, o2, none⟩) lb cb, .int .i64 q, .int .i64 f, .slice (some ⟨c1, p1, none⟩) ka da, .slice (some ⟨c2, p2, none⟩) kb db] 91)).alloc (.cells #[.int .i64 a1, .int .i64 a2] 93)).alloc (.cells #[.int .i64 z1, .int .i64 z2] 93)) 93 #[.int .i64 0, .int .i64 0]
    rw [World.size_alloc, World.size_alloc, World.size_alloc] at this
    exact this
  have bW : Below w.heap.size w W := by subst hW; exact ((((Below.refl _ _).alloc (Nat.le_refl _) _).alloc (by simp) _).alloc (by simp; omega) _).alloc (by simp; omega) _
  have HR := Lib.hid (hr.next bW)
  have HS := Lib.hid (hs.next bW)
  have HW := Lib.hid hW
  clear hr hs hW
  go_enter Try.func169, Try.ntmps169
  go_upto_region 1 with (fail)
  rw [HW.out]
  refine wp_region_makers 15 (fun _ => false) (fun _ _ _ => True) (fun _ _ => True) (fun _ => undef) probe (by kernel_rfl) (by kernel_rfl) (fun _ _ _ _ _ _ => trivial) (fun _ _ _ _ _ => trivial) (fun _ _ => trivial) ?_
  intro V hV vs _
  have cW : ∃ x, extC V x := ⟨V, extC_of (Below.refl _ _)⟩
  have RV := Lib.hid (HR.out.next hV)
  have SV := Lib.hid (HS.out.next hV)
  have x0 := (kP.below hV kP.lt).cell 0
  have x1 := (kP.below hV kP.lt).cell 1
  have x2 := (kP.below hV kP.lt).cell 2
  have x3 := (kP.below hV kP.lt).cell 3
  have x4 := (kP.below hV kP.lt).cell 4
  have x5 := (kP.below hV kP.lt).cell 5
  have x6 := (kP.below hV kP.lt).cell 6
  have x7 := (kP.below hV kP.lt).cell 7
  have y0 := (kA.below hV kA.lt).cell 0
  have y1 := (kA.below hV kA.lt).cell 1
  have z0' := (kB.below hV kB.lt).cell 0
  have z1' := (kB.below hV kB.lt).cell 1
  simp at x0 x1 x2 x3 x4 x5 x6 x7 y0 y1 z0' z1'
  simp only [List.take_succ_cons, List.take_zero, List.drop_succ_cons, List.drop_zero]
  refine wpV_quiet cW 15 0 _ _ (by decide) (by decide) ?_
  simp only [List.take_succ_cons, List.take_zero, List.drop_succ_cons, List.drop_zero]
  repeat (go_big_quiet_step (first
      | (go_at_call 136; with_reducible refine calls_ext (product_any a1 z1 m e b1 o1 la ca b2 o2 lb cb S P _ (RV.out.next (ext_below _ _)) h1 h2))
      | (go_at_call 136; with_reducible refine calls_ext (product_any a2 z2 q f c1 p1 ka da c2 p2 kb db T U _ (SV.out.next (ext_below _ _)) h3 h4))))
  refine wpQuiet_nil ?_
  refine wpV_nil ?_
  intro w2 hb2 _ _
  have kC2 := kC.below hb2 kC.lt
  have c0 := kC2.cell 0
  have c1' := kC2.cell 1
  have f0 := kC2.frozen 0
  have f1 := kC2.frozen 1
  simp at c0 c1'
  go_wp2_with (fail)
  refine bodyPost_ret (v := .agg #[.int .i64 (P (a1 * m + z1) : Nat), .int .i64 (U (a2 * q + z2) : Nat)]) ?_ rfl ⟨rfl, ?_⟩
  · have F := (kC2.set_ 0 (.int .i64 (P (a1 * m + z1) : Nat))).set_ 1 (.int .i64 (U (a2 * q + z2) : Nat))
    exact results_cell_row Try.results169 _ _ (w.heap.size + 1 + 1 + 1) 93 _ (0, 0) _ rfl F Try.underlying93 rfl (by kernel_rfl)
  · exact ((bW.trans (hb2.mono bW.size)).setCell (by simp; omega) _).setCell (by simp; omega) _

theorem el_lt {m q a : Nat} (hq : 1 ≤ q) (ha : a < m * q) : a / q < m ∧ a % q < q := prod_parts hq ha
theorem making_pa (m e b1 o1 la ca b2 o2 lb cb : Nat) (S P : Nat → Nat) (q f c1 p1 ka da c2 p2 kb db : Nat) (T U : Nat → Nat) (w : World) (hr : RingAt w m e b1 o1 la ca b2 o2 lb cb S P) (hs : RingAt w q f c1 p1 ka da c2 p2 kb db T U) (hmq : m * q ≤ 16) :
    Making w (.agg #[.int .i64 m, .int .i64 e, .slice (some ⟨b1, o1, none⟩) la ca, .slice (some ⟨b2, o2, none⟩) lb cb, .int .i64 q, .int .i64 f, .slice (some ⟨c1, p1, none⟩) ka da, .slice (some ⟨c2, p2, none⟩) kb db]) 92 168 93 95 170 169 (m * q) (e * q + f)
      (fun a => .agg #[.int .i64 (a / q : Nat), .int .i64 (a % q : Nat)]) (fun a b => .agg #[.int .i64 (S (a / q * m + b / q) : Nat), .int .i64 (T (a % q * q + b % q) : Nat)]) (fun a b => .agg #[.int .i64 (P (a / q * m + b / q) : Nat), .int .i64 (U (a % q * q + b % q) : Nat)])
      (prodF m q S T) (prodF m q P U) (.agg #[.int .i64 e, .int .i64 f]) := by
  have hm := hr.hm
  have hm' := hr.hm'
  have hq := hs.hm
  have hq' := hs.hm'
  have he := hr.he
  have hf := hs.he
  refine ⟨fun x _ => ?_, fun x _ => paOne_any m e b1 o1 la ca b2 o2 lb cb q f c1 p1 ka da c2 p2 kb db x, fun x _ => ?_, fun x _ a ha => ?_, fun x hx a b ha hb => ?_, fun x hx a b ha hb => ?_, fun x _ a b ha hb => ?_, fun x _ a b ha hb => ?_⟩
  · refine (paSize_any m e _ _ la ca lb cb q f _ _ ka da kb db x (by omega) (by omega) (by omega) (by omega)).mono fun e' w' ⟨h1, h2⟩ => ⟨by rw [h1]; simp, h2⟩
  · refine (paNumber_any m e _ _ la ca lb cb q f _ _ ka da kb db e f x (by omega) (by omega) (by omega) (by omega) (by omega) (by omega)).mono fun e' w' ⟨h1, h2⟩ => ⟨by rw [h1]; simp, h2⟩
  · refine (paElement_any m e _ _ la ca lb cb q f _ _ ka da kb db a x (by omega) (by omega) (by omega)).mono fun e' w' ⟨h1, h2⟩ => ⟨by rw [h1]; simp, h2⟩
  · obtain ⟨g1, g2⟩ := el_lt hq ha
    obtain ⟨g3, g4⟩ := el_lt hq hb
    exact paSum_any m e b1 o1 la ca b2 o2 lb cb S P q f c1 p1 ka da c2 p2 kb db T U (a / q) (a % q) (b / q) (b % q) x (hr.next hx) (hs.next hx) g1 g3 g2 g4
  · obtain ⟨g1, g2⟩ := el_lt hq ha
    obtain ⟨g3, g4⟩ := el_lt hq hb
    exact paProduct_any m e b1 o1 la ca b2 o2 lb cb S P q f c1 p1 ka da c2 p2 kb db T U (a / q) (a % q) (b / q) (b % q) x (hr.next hx) (hs.next hx) g1 g3 g2 g4
  · obtain ⟨g1, g2⟩ := el_lt hq ha
    obtain ⟨g3, g4⟩ := el_lt hq hb
    have l1 := hr.ts.lt g1 g3
    have l2 := hs.ts.lt g2 g4
    refine (paNumber_any m e _ _ la ca lb cb q f _ _ ka da kb db _ _ x (by omega) (by omega) (by omega) (by omega) (by omega) (by omega)).mono fun e' w' ⟨h1, h2⟩ => ⟨by rw [h1]; simp [prodF], h2⟩
  · obtain ⟨g1, g2⟩ := el_lt hq ha
    obtain ⟨g3, g4⟩ := el_lt hq hb
    have l1 := hr.tp.lt g1 g3
    have l2 := hs.tp.lt g2 g4
    refine (paNumber_any m e _ _ la ca lb cb q f _ _ ka da kb db _ _ x (by omega) (by omega) (by omega) (by omega) (by omega) (by omega)).mono fun e' w' ⟨h1, h2⟩ => ⟨by rw [h1]; simp [prodF], h2⟩

end Go.Proofs.Ytihjnjcfiipcoaa


/- The program's maker of rings, at the pairs. -/
namespace Go.Proofs.Ytihjnjcfiipcoaa
open Go.RowKit
set_option maxRecDepth 100000

theorem row_ne {w : World} {g D n : Nat} {cs : Array Value} {v : Value} {xs : List Value} (h : w.ownsRow D 3 1 v n xs) (hg : Blk w g 93 cs) : some g ≠ v.ownBlock := by
  rcases h.2 with ⟨rfl, _⟩ | ⟨g', cap, cur, rfl, _, hh, _⟩
  · simp [Value.ownBlock]
  · intro he
    have : g = g' := by simpa [Value.ownBlock] using he
    subst this
    exact blk_ne (t := 3) (t' := 93) (w := w) (g := g) (g' := g) hh hg (by decide) rfl
theorem pa_size (mv : Value) (w : World) : (method 268 91 mv "loop.example/finiterings/impl.size").run Try.prog w = .ok (92, mv) w := by kernel_rfl
theorem pa_one (mv : Value) (w : World) : (method 268 91 mv "loop.example/finiterings/impl.one").run Try.prog w = .ok (168, mv) w := by kernel_rfl
theorem pa_element (mv : Value) (w : World) : (method 268 91 mv "loop.example/finiterings/impl.element").run Try.prog w = .ok (93, mv) w := by kernel_rfl
theorem pa_number (mv : Value) (w : World) : (method 268 91 mv "loop.example/finiterings/impl.number").run Try.prog w = .ok (95, mv) w := by kernel_rfl
theorem pa_sum (mv : Value) (w : World) : (method 268 91 mv "loop.example/finiterings/impl.sum").run Try.prog w = .ok (170, mv) w := by kernel_rfl
theorem pa_product (mv : Value) (w : World) : (method 268 91 mv "loop.example/finiterings/impl.product").run Try.prog w = .ok (169, mv) w := by kernel_rfl
theorem pa_ahead (mv : Value) (w : World) : (nilAhead 268 91 mv "loop.example/finiterings/impl.number").run Try.prog w = .ok (some false) w := by kernel_rfl

set_option maxHeartbeats 8000000 in
theorem madePa_any (mv : Value) (m o : Nat) (E1 E2 : Nat → Int) (SV PV : Nat → Nat → Value) (S P : Nat → Nat → Nat) (oneV : Value) (hm : 1 ≤ m) (hm' : m ≤ 16) (w : World)
    (hM : Making w mv 92 168 93 95 170 169 m o (fun a => .agg #[.int .i64 (E1 a), .int .i64 (E2 a)]) SV PV S P oneV) :
    Calls Try.prog 90 #[.iface 91 mv] w fun e w' => ∃ v, e = .returned v ∧ NewRing w.heap.size w' v m o (m * m) (tabZ m S (m * m)) (tabZ m P (m * m)) ∧ Below w.heap.size w w' := by
  obtain ⟨i0, hi, hz0, hz1, hz2⟩ := info_parts int_info
  obtain ⟨s1, s2, s3, s4⟩ := sqI hm'
  have S3 := Lib.hid s3
  have MK := Lib.hid hM
  clear s3 hM
  have hmm : m * m ≤ 256 := s4
  have q1 := pa_size mv
  have q2 := pa_one mv
  have q3 := pa_element mv
  have q4 := pa_number mv
  have q5 := pa_sum mv
  have q6 := pa_product mv
  have q7 := pa_ahead mv
  have b0 : Below w.heap.size w (w.alloc (.cells #[.int .i64 0, .int .i64 0, .slice none 0 0, .slice none 0 0] 25)) := (Below.refl _ _).alloc (Nat.le_refl _) _
  have k0 := Blk.new w 25 #[.int .i64 0, .int .i64 0, .slice none 0 0, .slice none 0 0]
  have K0 := Lib.hid k0
  have B0 := Lib.hid b0
  clear k0 b0
  go_enter Try.func90, Try.ntmps90
  go_wp2_with (go_at_call 92; refine (MK.out.size _ B0.out).mono ?_; rintro e1 w1 ⟨rfl, hb1⟩)
  have K1 := Lib.hid (K0.out.below hb1 K0.out.lt)
  have B1 := Lib.hid (B0.out.trans (hb1.mono (by simp)))
  have hs1 := hb1.size
  clear hb1
  have hmz : IntKind.i64.wrap ((m : Int) * m) = (m : Int) * m := IntWalk.i64_in _ (by omega)
  refine wp_region_makers 18 madeMk (madePhi (w.heap.size + 1) m) (madeSh m) (fun i => if i = 17 then .pointer (some ⟨0, 0, none⟩) else .slice (some ⟨0, 0, none⟩) 0 (m * m)) probe (by kernel_rfl) (by kernel_rfl) madePhi_stable (fun i v x _ => madeSh_of i v x)
    (fun i _ => by unfold madeSh; split <;> simp) ?_
  intro W hW vs hvs
  obtain ⟨g1, e1⟩ : ∃ g, vs 11 = .slice (some ⟨g, 0, none⟩) 0 (m * m) := hvs 11 rfl
  obtain ⟨g2, e2⟩ : ∃ g, vs 15 = .slice (some ⟨g, 0, none⟩) 0 (m * m) := hvs 15 rfl
  obtain ⟨bx, e3⟩ : ∃ g, vs 17 = .pointer (some ⟨g, 0, none⟩) := hvs 17 rfl
  have BW := Lib.hid (B1.out.trans (hW.mono B1.out.size))
  have cW : ∃ x, extC W x := ⟨W, extC_of (Below.refl _ _)⟩
  have big : ∀ x, extC W x → w.heap.size + 1 ≤ x.heap.size := fun x ⟨u, hu⟩ => by rw [hu]; exact Nat.le_trans (Nat.le_trans K1.out.lt hW.size) (ext_size W u)
  simp only [List.take_succ_cons, List.take_zero, List.drop_succ_cons, List.drop_zero]
  refine wpV_quiet cW 11 0 _ _ (by decide) (by decide) ?_
  simp only [List.take_succ_cons, List.take_zero, List.drop_succ_cons, List.drop_zero]
  repeat (go_big_quiet_step (first
      | (go_at_call 168; with_reducible refine calls_ext (MK.out.one _ ?_); exact BW.out.trans ((ext_below _ _).mono BW.out.size))
      | (go_at_call 95; with_reducible refine calls_ext (MK.out.oneNum _ ?_); exact BW.out.trans ((ext_below _ _).mono BW.out.size))))
  refine wpQuiet_nil ?_
  refine wpV_make' rfl rfl (fun x hx => makesAt_mono (makes_row _ _ 0 (m * m) _ _ rfl rfl (by rw [← S3.out]; rfl) (Nat.zero_le _) (by omega) x) fun v x' ⟨g, h1, h2, h3⟩ => ⟨g, h1, Nat.le_trans (big x hx) h2, h3⟩) ?_
  rw [e1]
  go_simp
  refine wpV_quiet cW 3 _ _ _ (by decide) (by decide) ?_
  simp only [List.take_succ_cons, List.take_zero, List.drop_succ_cons, List.drop_zero]
  repeat (go_big_quiet_step (fail))
  refine wpQuiet_nil ?_
  refine wpV_make' rfl rfl (fun x hx => makesAt_mono (makes_row _ _ 0 (m * m) _ _ rfl rfl (by rw [← S3.out]; rfl) (Nat.zero_le _) (by omega) x) fun v x' ⟨g, h1, h2, h3⟩ => ⟨g, h1, Nat.le_trans (big x hx) h2, h3⟩) ?_
  rw [e2]
  go_simp
  refine wpV_quiet cW 1 _ _ _ (by decide) (by decide) ?_
  simp only [List.take_succ_cons, List.take_zero, List.drop_succ_cons, List.drop_zero]
  repeat (go_big_quiet_step (fail))
  refine wpQuiet_nil ?_
  refine wpV_make' rfl rfl (fun x hx => makesAt_mono (makes_box rfl x) fun v x' ⟨g, h1, h2, h3⟩ => ⟨g, h1, Nat.le_trans (big x hx) h2, h3⟩) ?_
  rw [e3]
  go_simp
  refine wpV_nil ?_
  intro w2 hb2 hfacts hapart
  have n12 : g1 ≠ g2 := fun e => hapart 11 15 (by omega) (by omega) (by omega) rfl rfl g1 (by rw [e1]; rfl) (by rw [e2, e]; rfl)
  obtain ⟨d1, r1⟩ : w.heap.size + 1 ≤ g1 ∧ Blk w2 g1 3 (madeCells #[.int .i64 0] (m * m)) := by
    obtain ⟨g, h1, h2, h3⟩ := hfacts 11 (by omega) rfl
    rw [e1] at h1
    simp at h1
    subst h1
    exact ⟨h2, h3⟩
  obtain ⟨d2, r2⟩ : w.heap.size + 1 ≤ g2 ∧ Blk w2 g2 3 (madeCells #[.int .i64 0] (m * m)) := by
    obtain ⟨g, h1, h2, h3⟩ := hfacts 15 (by omega) rfl
    rw [e2] at h1
    simp at h1
    subst h1
    exact ⟨h2, h3⟩
  obtain ⟨d3, r3⟩ : w.heap.size + 1 ≤ bx ∧ Blk w2 bx 25 #[.int .i64 0, .int .i64 0, .slice none 0 0, .slice none 0 0] := by
    obtain ⟨g, h1, h2, h3⟩ := hfacts 17 (by omega) rfl
    rw [e3] at h1
    simp at h1
    subst h1
    exact ⟨h2, h3⟩
  clear hfacts hapart hvs e1 e2 e3
  have nb1 : g1 ≠ bx := blk_ne (t := 3) (t' := 25) r1 r3 (by decide)
  have nb2 : g2 ≠ bx := blk_ne (t := 3) (t' := 25) r2 r3 (by decide)
  have c0 := r3.cell 0
  have c1 := r3.cell 1
  have c2 := r3.cell 2
  have c3 := r3.cell 3
  have f0 := r3.frozen 0
  have f1 := r3.frozen 1
  have f2 := r3.frozen 2
  have f3 := r3.frozen 3
  simp at c0 c1 c2 c3
  go_wp2_with (fail)
  obtain ⟨V, hV⟩ : ∃ V, store4 w2 bx (.int .i64 m) (.int .i64 o) (.slice (some ⟨g1, 0, none⟩) 0 (m * m)) (.slice (some ⟨g2, 0, none⟩) 0 (m * m)) = V := ⟨_, rfl⟩
  have hV' := hV
  unfold store4 at hV'
  have gv : Grow (w.heap.size + 1) V bx m o (.slice (some ⟨g1, 0, none⟩) 0 (m * m)) (.slice (some ⟨g2, 0, none⟩) 0 (m * m)) 0 0 [] [] := by
    subst hV
    exact ⟨store4_blk r3, d3, store4_own (own_of_blk r1 d1 (by omega)) (by simpa [Value.ownBlock] using nb1), store4_own (own_of_blk r2 d2 (by omega)) (by simpa [Value.ownBlock] using nb2), by simpa [Value.ownBlock] using nb1, by simpa [Value.ownBlock] using nb2, by
      intro g h1 h2
      simp [Value.ownBlock] at h1 h2
      omega⟩
  have bv : Below w1.heap.size w1 w2 := hb2
  have bV : Below (w.heap.size + 1) w1 V := by subst hV; exact store4_below (bv.mono K1.out.lt) d3
  rw [hV']
  clear hV hV' c0 c1 c2 c3 f0 f1 f2 f3 r1 r2 r3 hb2 bv BW cW big hW
  have GV := Lib.hid gv
  have BV := Lib.hid bV
  clear gv bV
  go_loopw [29] (fun i wr => ∃ (a : Nat) (v2 v3 : Value), a ≤ m ∧ i = .int .i64 a ∧ Grow (w.heap.size + 1) wr bx m o v2 v3 (a * m) (a * m) (tabZ m S (a * m)) (tabZ m P (a * m)) ∧ Below (w.heap.size + 1) V wr) (fun i _ => m - (intOf i).toNat)
  case atStart => exact ⟨0, _, _, Nat.zero_le _, rfl, by simpa [tabZ] using GV.out, Below.refl _ _⟩
  case round =>
    obtain ⟨a, v2, v3, ha, rfl, hg, hb⟩ := hrel
    have GR := Lib.hid hg
    have BR := Lib.hid hb
    clear hg hb
    by_cases hlt : a < m
    · have hBw : Below w.heap.size w wr := B1.out.trans ((BV.out.trans BR.out).mono (by omega))
      go_wp2_with (go_at_call 93; refine (MK.out.element _ hBw a hlt).mono ?_; rintro e3 w3' ⟨rfl, hb3'⟩)
      obtain ⟨w3, hw3⟩ : ∃ w3, w3'.alloc (.cells #[.int .i64 (E1 a), .int .i64 (E2 a)] 93) = w3 := ⟨_, rfl⟩
      have hb3 : Below wr.heap.size wr w3 := by subst hw3; exact hb3'.alloc hb3'.size _
      have kl : Blk w3 w3'.heap.size 93 #[.int .i64 (E1 a), .int .i64 (E2 a)] := by subst hw3; exact Blk.new _ _ _
      rw [hw3]
      obtain ⟨lx, hlx0⟩ : ∃ lx, w3'.heap.size = lx := ⟨_, rfl⟩
      rw [hlx0] at kl ⊢
      have KL := Lib.hid kl
      have hlD : w.heap.size + 1 ≤ lx := by
        rw [← hlx0]
        exact Nat.le_trans (Nat.le_of_lt (Nat.lt_of_le_of_lt GR.out.hD GR.out.box.lt)) hb3'.size
      clear hw3 hlx0 kl hb3'
      have G3 := Lib.hid (GR.out.keep hb3)
      have B3 := Lib.hid (BR.out.trans (hb3.mono (Nat.le_of_lt (Nat.lt_of_le_of_lt GR.out.hD GR.out.box.lt))))
      clear hb3 hBw
      have hne : lx ≠ bx := blk_ne KL.out G3.out.box (by decide)
      go_loopw [36] (fun i wr => ∃ (b : Nat) (v2 v3 : Value), b ≤ m ∧ i = .int .i64 b ∧ Blk wr lx 93 #[.int .i64 (E1 a), .int .i64 (E2 a)] ∧ Grow (w.heap.size + 1) wr bx m o v2 v3 (a * m + b) (a * m + b) (tabZ m S (a * m + b)) (tabZ m P (a * m + b)) ∧ Below (w.heap.size + 1) V wr) (fun i _ => m - (intOf i).toNat)
      case atStart => exact ⟨0, _, _, Nat.zero_le _, rfl, KL.out, G3.out, B3.out⟩
      case round =>
        obtain ⟨b, v2, v3, hb, rfl, hkl, hg, hbl⟩ := hrel
        have KI := Lib.hid hkl
        clear hkl
        have GR := Lib.hid hg
        have BR := Lib.hid hbl
        clear hg hbl
        by_cases hlt2 : b < m
        · have hBw : Below w.heap.size w wr := B1.out.trans ((BV.out.trans BR.out).mono (by omega))
          go_wp2_with (go_at_call 93; refine (MK.out.element _ hBw b hlt2).mono ?_; rintro e4 wd' ⟨rfl, hb4'⟩)
          obtain ⟨wd, hwd⟩ : ∃ wd, wd'.alloc (.cells #[.int .i64 (E1 b), .int .i64 (E2 b)] 93) = wd := ⟨_, rfl⟩
          have hb4 : Below wr.heap.size wr wd := by subst hwd; exact hb4'.alloc hb4'.size _
          have kr : Blk wd wd'.heap.size 93 #[.int .i64 (E1 b), .int .i64 (E2 b)] := by subst hwd; exact Blk.new _ _ _
          rw [hwd]
          obtain ⟨rx, hrx0⟩ : ∃ rx, wd'.heap.size = rx := ⟨_, rfl⟩
          rw [hrx0] at kr ⊢
          have KX := Lib.hid kr
          have KY := Lib.hid (KI.out.below hb4 KI.out.lt)
          clear hwd hrx0 kr hb4'
          have gd := GR.out.keep hb4
          have bd : Below w.heap.size w wd := hBw.trans (hb4.mono hBw.size)
          have GD := Lib.hid gd
          have BD := Lib.hid bd
          have BE := Lib.hid (BR.out.trans (hb4.mono (Nat.le_of_lt (Nat.lt_of_le_of_lt GR.out.hD GR.out.box.lt))))
          have hlx : bx < wd.heap.size := gd.box.lt
          have hne2 : rx ≠ bx := blk_ne KX.out gd.box (by decide)
          have hq0 : w.heap.size ≤ wd.heap.size := bd.size
          have hq : w.heap.size ≤ wd.heap.size := bd.size
          have hqD : w.heap.size + 1 ≤ wd.heap.size := Nat.le_of_lt (Nat.lt_of_le_of_lt gd.hD gd.box.lt)
          clear hb4 hBw gd bd
          have hk0 : a * m + b < m * m := by
            have : (a + 1) * m ≤ m * m := Nat.mul_le_mul_right _ hlt
            rw [Nat.succ_mul] at this
            omega
          have hkk : (a * m + b) + 1 ≤ maxLen := by unfold maxLen; omega
          have hbt : ((a * m + b) + 1) * 8 ≤ 140737488355328 := by omega
          have GWA := Lib.hid GD.out
          have nnA : v2.ownBlock ≠ some bx := GD.out.n2
          go_wp2_with (fail)
          refine wp_region_makers 12 (fun i => i == 11) (appPhi (w.heap.size + 1) (.int .i64 (S a b : Nat))) appSh (fun _ => .slice (some ⟨0, 0, none⟩) 1 1) probe (by kernel_rfl) (by kernel_rfl) appPhi_stable (fun i v x _ => appSh_of i v x) (fun _ _ => ⟨0, rfl⟩) ?_
          intro W1 hW1 vsA hvsA
          obtain ⟨h1A, e1A⟩ : ∃ g, vsA 11 = .slice (some ⟨g, 0, none⟩) 1 1 := hvsA 11 rfl
          have BWA := Lib.hid (BD.out.trans (hW1.mono hq))
          have cWA : ∃ x, extC W1 x := ⟨W1, extC_of (Below.refl _ _)⟩
          have bigA : ∀ x, extC W1 x → w.heap.size + 1 ≤ x.heap.size := fun x ⟨u, hu⟩ => by rw [hu]; exact Nat.le_trans (Nat.le_trans hqD hW1.size) (ext_size W1 u)
          have cA := (GD.out.keep hW1).box.cell 2
          simp at cA
          have l0A := (KY.out.below hW1 KY.out.lt).cell 0
          have l1A := (KY.out.below hW1 KY.out.lt).cell 1
          have r0A := (KX.out.below hW1 KX.out.lt).cell 0
          have r1A' := (KX.out.below hW1 KX.out.lt).cell 1
          simp at l0A l1A r0A r1A'
          simp only [List.take_succ_cons, List.take_zero, List.drop_succ_cons, List.drop_zero]
          refine wpV_quiet cWA 11 0 _ _ (by decide) (by decide) ?_
          simp only [List.take_succ_cons, List.take_zero, List.drop_succ_cons, List.drop_zero]
          repeat (go_big_quiet_step (first
              | (go_at_call 170; with_reducible refine calls_ext (MK.out.sum _ ?_ a b hlt hlt2); exact BWA.out.trans ((ext_below _ _).mono BWA.out.size))
              | (go_at_call 95; with_reducible refine calls_ext (MK.out.sumNum _ ?_ a b hlt hlt2); exact BWA.out.trans ((ext_below _ _).mono BWA.out.size))))
          refine wpQuiet_nil ?_
          refine wpV_make' rfl rfl (fun x hx => makesAt_mono (makes_one _ _ rfl rfl x) fun v x' ⟨g, p1, p2, p3⟩ => ⟨g, p1, Nat.le_trans (bigA x hx) p2, p3⟩) ?_
          rw [e1A]
          go_simp
          refine wpV_nil ?_
          intro wm hbA hfactsA _
          obtain ⟨gA, q1A, _, r1A⟩ := hfactsA 11 (by omega) rfl
          have egA : gA = h1A := by rw [e1A] at q1A; simp at q1A; exact q1A.symm
          subst egA
          have gkA := GD.out.keep hbA
          refine wpList_append_lies _ rfl _ _ _ rfl (w.heap.size + 1) 3 i0 _ 1 8 Try.underlying23 hi hz0 hz1 hz2 rfl (by omega) v2 (a * m + b) _ rfl gkA.o2 ⟨gA, 0, none⟩ 1 1 _ rfl rfl (World.news_of_block r1A) (by simp [Value.oneCell']) (by omega) hkk hbt (Nat.le_trans hqD hbA.size) _ rfl ?_
          intro gg cap w7 hownA hgrowA hatA _
          have ffA : w7.frozen? ⟨bx, 2, none⟩ = false := by rw [hgrowA.frozen_far _ gkA.box.lt (Ne.symm nnA)]; exact gkA.box.frozen 2
          have ccA : w7.cell? ⟨bx, 2, none⟩ = some v2 := by rw [hgrowA.cell_far _ gkA.box.lt (Ne.symm nnA)]; exact gkA.box.cell 2
          obtain ⟨gpA, bpA⟩ := gkA.put2 hownA hgrowA hatA
          go_wp2_with (fail)
          have KY2 := Lib.hid (show Blk (w7.setCell ⟨bx, 2, none⟩ (.slice (some ⟨gg, 0, none⟩) (a * m + b + 1) cap)) lx 93 #[.int .i64 (E1 a), .int .i64 (E2 a)] from
            (Blk.far ((hgrowA.block lx (KY.out.below hbA KY.out.lt).lt (row_ne gkA.o2 (KY.out.below hbA KY.out.lt))).trans (KY.out.below hbA KY.out.lt)) hne _))
          have KX2 := Lib.hid (show Blk (w7.setCell ⟨bx, 2, none⟩ (.slice (some ⟨gg, 0, none⟩) (a * m + b + 1) cap)) rx 93 #[.int .i64 (E1 b), .int .i64 (E2 b)] from
            (Blk.far ((hgrowA.block rx (KX.out.below hbA KX.out.lt).lt (row_ne gkA.o2 (KX.out.below hbA KX.out.lt))).trans (KX.out.below hbA KX.out.lt)) hne2 _))
          have GP0 := Lib.hid gpA
          have BP0 := Lib.hid (BE.out.trans ((hbA.mono hqD).trans bpA))
          clear l0A l1A r0A r1A' gpA bpA hownA hgrowA hatA ffA ccA gkA hbA hfactsA q1A r1A cA nnA GWA BWA cWA bigA hW1 hvsA
          obtain ⟨we, hwe⟩ : ∃ we, w7.setCell ⟨bx, 2, none⟩ (.slice (some ⟨gg, 0, none⟩) (a * m + b + 1) cap) = we := ⟨_, rfl⟩
          rw [hwe] at GP0 BP0 KY2 KX2 ⊢
          clear hwe
          have GP := Lib.hid GP0.out
          have BP := Lib.hid (B1.out.trans ((BV.out.trans BP0.out).mono (Nat.le_succ _)))
          have hq3 : w.heap.size ≤ we.heap.size := BP.out.size
          have hqD3 : w.heap.size + 1 ≤ we.heap.size := Nat.le_of_lt (Nat.lt_of_le_of_lt GP.out.hD GP.out.box.lt)
          have GWB := Lib.hid GP.out
          have nnB : v3.ownBlock ≠ some bx := GP.out.n3
          go_wp2_with (fail)
          refine wp_region_makers 12 (fun i => i == 11) (appPhi (w.heap.size + 1) (.int .i64 (P a b : Nat))) appSh (fun _ => .slice (some ⟨0, 0, none⟩) 1 1) probe (by kernel_rfl) (by kernel_rfl) appPhi_stable (fun i v x _ => appSh_of i v x) (fun _ _ => ⟨0, rfl⟩) ?_
          intro W2 hW2 vsB hvsB
          obtain ⟨h1B, e1B⟩ : ∃ g, vsB 11 = .slice (some ⟨g, 0, none⟩) 1 1 := hvsB 11 rfl
          have BWB := Lib.hid (BP.out.trans (hW2.mono hq3))
          have cWB : ∃ x, extC W2 x := ⟨W2, extC_of (Below.refl _ _)⟩
          have bigB : ∀ x, extC W2 x → w.heap.size + 1 ≤ x.heap.size := fun x ⟨u, hu⟩ => by rw [hu]; exact Nat.le_trans (Nat.le_trans hqD3 hW2.size) (ext_size W2 u)
          have cB := (GP.out.keep hW2).box.cell 3
          simp at cB
          have l0B := (KY2.out.below hW2 KY2.out.lt).cell 0
          have l1B := (KY2.out.below hW2 KY2.out.lt).cell 1
          have r0B := (KX2.out.below hW2 KX2.out.lt).cell 0
          have r1B' := (KX2.out.below hW2 KX2.out.lt).cell 1
          simp at l0B l1B r0B r1B'
          simp only [List.take_succ_cons, List.take_zero, List.drop_succ_cons, List.drop_zero]
          refine wpV_quiet cWB 11 0 _ _ (by decide) (by decide) ?_
          simp only [List.take_succ_cons, List.take_zero, List.drop_succ_cons, List.drop_zero]
          repeat (go_big_quiet_step (first
              | (go_at_call 169; with_reducible refine calls_ext (MK.out.product _ ?_ a b hlt hlt2); exact BWB.out.trans ((ext_below _ _).mono BWB.out.size))
              | (go_at_call 95; with_reducible refine calls_ext (MK.out.prodNum _ ?_ a b hlt hlt2); exact BWB.out.trans ((ext_below _ _).mono BWB.out.size))))
          refine wpQuiet_nil ?_
          refine wpV_make' rfl rfl (fun x hx => makesAt_mono (makes_one _ _ rfl rfl x) fun v x' ⟨g, p1, p2, p3⟩ => ⟨g, p1, Nat.le_trans (bigB x hx) p2, p3⟩) ?_
          rw [e1B]
          go_simp
          refine wpV_nil ?_
          intro wn hbB hfactsB _
          obtain ⟨gB, q1B, _, r1B⟩ := hfactsB 11 (by omega) rfl
          have egB : gB = h1B := by rw [e1B] at q1B; simp at q1B; exact q1B.symm
          subst egB
          have gkB := GP.out.keep hbB
          refine wpList_append_lies _ rfl _ _ _ rfl (w.heap.size + 1) 3 i0 _ 1 8 Try.underlying23 hi hz0 hz1 hz2 rfl (by omega) v3 (a * m + b) _ rfl gkB.o3 ⟨gB, 0, none⟩ 1 1 _ rfl rfl (World.news_of_block r1B) (by simp [Value.oneCell']) (by omega) hkk hbt (Nat.le_trans hqD3 hbB.size) _ rfl ?_
          intro g9 cap9 w8 hownB hgrowB hatB _
          have ffB : w8.frozen? ⟨bx, 3, none⟩ = false := by rw [hgrowB.frozen_far _ gkB.box.lt (Ne.symm nnB)]; exact gkB.box.frozen 3
          have ccB : w8.cell? ⟨bx, 3, none⟩ = some v3 := by rw [hgrowB.cell_far _ gkB.box.lt (Ne.symm nnB)]; exact gkB.box.cell 3
          obtain ⟨gpB, bpB⟩ := gkB.put3 hownB hgrowB hatB
          go_wp2_with (fail)
          have KZ2 := Lib.hid (show Blk (w8.setCell ⟨bx, 3, none⟩ (.slice (some ⟨g9, 0, none⟩) (a * m + b + 1) cap9)) lx 93 #[.int .i64 (E1 a), .int .i64 (E2 a)] from
            (Blk.far ((hgrowB.block lx (KY2.out.below hbB KY2.out.lt).lt (row_ne gkB.o3 (KY2.out.below hbB KY2.out.lt))).trans (KY2.out.below hbB KY2.out.lt)) hne _))
          have GQ := Lib.hid gpB
          have BQ := Lib.hid (BP0.out.trans ((hbB.mono hqD3).trans bpB))
          clear l0B l1B r0B r1B' gpB bpB hownB hgrowB hatB ffB ccB gkB hbB hfactsB q1B r1B cB nnB GWB BWB cWB bigB hW2 hvsB
          obtain ⟨wf, hwf⟩ : ∃ wf, w8.setCell ⟨bx, 3, none⟩ (.slice (some ⟨g9, 0, none⟩) (a * m + b + 1) cap9) = wf := ⟨_, rfl⟩
          rw [hwf] at GQ BQ KZ2 ⊢
          clear hwf
          go_wp2
          go_roundw
          case rel => exact ⟨b + 1, _, _, by omega, by go_num, KZ2.out, by
            have := GQ.out
            rw [← tabZ_at hlt2, ← tabZ_at hlt2] at this
            exact this, BQ.out⟩
          case measure => simp [intOf]; omega
        · have hbm : b = m := by omega
          subst hbm
          go_wp2
          go_roundw
          case rel => exact ⟨a + 1, v2, v3, by omega, by go_num, by rw [Nat.succ_mul]; exact GR.out, BR.out⟩
          case measure => simp [intOf]; omega
    · have ham : a = m := by omega
      subst ham
      have hpos : 0 < a * a := Nat.mul_pos hm hm
      obtain ⟨h2, cap2, e2, _, _⟩ := GR.out.o2.form hpos
      obtain ⟨h3, cap3, e3, _, _⟩ := GR.out.o3.form hpos
      subst e2 e3
      have ZR := Lib.hid ((K1.out.below (BV.out) (Nat.lt_succ_self _)).below BR.out (Nat.lt_succ_self _))
      have c0 := GR.out.box.cell 0
      have c1 := GR.out.box.cell 1
      have c2 := GR.out.box.cell 2
      have c3 := GR.out.box.cell 3
      have d0 := ZR.out.cell 0
      have d1 := ZR.out.cell 1
      have d2 := ZR.out.cell 2
      have d3 := ZR.out.cell 3
      have f0 := ZR.out.frozen 0
      have f1 := ZR.out.frozen 1
      have f2 := ZR.out.frozen 2
      have f3 := ZR.out.frozen 3
      simp at c0 c1 c2 c3 d0 d1 d2 d3
      go_wp2
      refine bodyPost_ret (v := .agg #[.int .i64 a, .int .i64 o, .slice (some ⟨h2, 0, none⟩) (a * a) cap2, .slice (some ⟨h3, 0, none⟩) (a * a) cap3]) ?_ rfl ⟨_, rfl, ?_, ?_⟩
      · exact results_cell_row Try.results90 _ _ w.heap.size 25 _ (0, 0) _ rfl (store4_blk ZR.out) Try.underlying25 rfl (by kernel_rfl)
      · exact (GR.out.result ZR.out (by decide)).mono (Nat.le_succ _)
      · exact store4_below (B1.out.trans ((BV.out.trans BR.out).mono (Nat.le_succ _))) (Nat.le_refl _)

end Go.Proofs.Ytihjnjcfiipcoaa


/- ProductRing of the program. -/
namespace Go.Proofs.Ytihjnjcfiipcoaa
open Go.RowKit
set_option maxRecDepth 100000

set_option maxHeartbeats 1000000 in
theorem product_ring_any (n o : Int) (A B : Option Addr) (la ca lb cb : Nat) (X Y : List Int) (n' o' : Int) (A' B' : Option Addr) (la' ca' lb' cb' : Nat) (X' Y' : List Int) (w : World) (hX : Ints w w.heap.size A la X) (hY : Ints w w.heap.size B lb Y) (hla : la ≤ 9223372036854775807) (hlb : lb ≤ 9223372036854775807) (hca : la ≤ ca) (hcb : lb ≤ cb) (hX' : Ints w w.heap.size A' la' X') (hY' : Ints w w.heap.size B' lb' Y') (hla' : la' ≤ 9223372036854775807) (hlb' : lb' ≤ 9223372036854775807) (hca' : la' ≤ ca') (hcb' : lb' ≤ cb') :
    Calls Try.prog 29 #[.agg #[.int .i64 n, .int .i64 o, .slice A la ca, .slice B lb cb], .agg #[.int .i64 n', .int .i64 o', .slice A' la' ca', .slice B' lb' cb']] w fun e w' => ∃ v, e = .returned (.tuple #[v, .bool (prodB n o X Y n' o' X' Y')]) ∧ RingOut w.heap.size w' v (prN n o X Y n' o' X' Y') (prO n o X Y n' o' X' Y') (prT X X' n o X Y n' o' X' Y') (prT Y Y' n o X Y n' o' X' Y') ∧ Below w.heap.size w w' := by
  obtain ⟨W, hW⟩ : ∃ W, (((w.alloc (.cells #[.int .i64 n, .int .i64 o, .slice A la ca, .slice B lb cb] 25)).alloc (.cells #[.int .i64 n', .int .i64 o', .slice A' la' ca', .slice B' lb' cb'] 25)).alloc (.cells #[.int .i64 0, .int .i64 0, .slice none 0 0, .slice none 0 0] 25)).alloc (.cells #[.int .i64 n, .int .i64 o, .slice A la ca, .slice B lb cb, .int .i64 n', .int .i64 o', .slice A' la' ca', .slice B' lb' cb'] 91) = W := ⟨_, rfl⟩
  have kZ : Blk W (w.heap.size + 1 + 1) 25 #[.int .i64 0, .int .i64 0, .slice none 0 0, .slice none 0 0] := by
    subst hW
    have := (Blk.new ((w.alloc (.cells #[.int .i64 n, .int .i64 o, .slice A la ca, .slice B lb cb] 25)).alloc (.cells #[.int .i64 n', .int .i64 o', .slice A' la' ca', .slice B' lb' cb'] 25)) 25 #[.int .i64 0, .int .i64 0, .slice none 0 0, .slice none 0 0]).alloc (.cells #[.int .i64 n, .int .i64 o, .slice A la ca, .slice B lb cb, .int .i64 n', .int .i64 o', .slice A' la' ca', .slice B' lb' cb'] 91)
    rw [World.size_alloc, World.size_alloc] at this
    exact this
  have kP : Blk W (w.heap.size + 1 + 1 + 1) 91 #[.int .i64 n, .int .i64 o, .slice A la ca, .slice B lb cb, .int .i64 n', .int .i64 o', .slice A' la' ca', .slice B' lb' cb'] := by
    subst hW
    have := Blk.new (((w.alloc (.cells #[.int .i64 n, .int .i64 o, .slice A la ca, .slice B lb cb] 25)).alloc (.cells #[.int .i64 n', .int .i64 o', .slice A' la' ca', .slice B' lb' cb'] 25)).alloc (.cells #[.int .i64 0, .int .i64 0, .slice none 0 0, .slice none 0 0] 25)) 91 #[.int .i64 n, .int .i64 o, .slice A la ca, .slice B lb cb, .int .i64 n', .int .i64 o', .slice A' la' ca', .slice B' lb' cb']
    rw [World.size_alloc, World.size_alloc, World.size_alloc] at this
    exact this
  have bW : Below w.heap.size w W := by
    subst hW
    exact ((((Below.refl _ _).alloc (Nat.le_refl _) _).alloc (by simp) _).alloc (by simp; omega) _).alloc (by simp; omega) _
  have KZ := Lib.hid kZ
  have KP := Lib.hid kP
  have BW := Lib.hid bW
  have lW : w.heap.size + 1 + 1 < W.heap.size := kZ.lt
  have IX := Lib.hid (hX.next bW)
  have IY := Lib.hid (hY.next bW)
  have IX' := Lib.hid (hX'.next bW)
  have IY' := Lib.hid (hY'.next bW)
  have HW := Lib.hid hW
  have p0 := kP.cell 0
  have p1 := kP.cell 1
  have p2 := kP.cell 2
  have p3 := kP.cell 3
  have p4 := kP.cell 4
  have p5 := kP.cell 5
  have p6 := kP.cell 6
  have p7 := kP.cell 7
  simp at p0 p1 p2 p3 p4 p5 p6 p7
  clear kZ kP bW hW hX hY hX' hY'
  cases hp : prodB n o X Y n' o' X' Y'
  · have VP := Lib.hid hp
    simp only [prN, prO, prT, hp, Bool.false_eq_true, if_false]
    clear hp
    go_enter Try.func29, Try.ntmps29
    go_upto_region 2 with (fail)
    rw [HW.out]
    go_wp2_with (fail)
    refine (paValid_any n o A B la ca lb cb X Y n' o' A' B' la' ca' lb' cb' X' Y' W IX.out IY.out hla hlb hca hcb IX'.out IY'.out hla' hlb' hca' hcb').mono ?_
    rintro e1 w1 ⟨rfl, hb1⟩
    rw [VP.out]
    have KZ1 := Lib.hid (KZ.out.below hb1 KZ.out.lt)
    have KP1 := Lib.hid (KP.out.below hb1 KP.out.lt)
    have BW1 := Lib.hid (BW.out.trans (hb1.mono BW.out.size))
    have z01 := KZ1.out.cell 0
    have z11 := KZ1.out.cell 1
    have z21 := KZ1.out.cell 2
    have z31 := KZ1.out.cell 3
    have fz01 := KZ1.out.frozen 0
    have fz11 := KZ1.out.frozen 1
    have fz21 := KZ1.out.frozen 2
    have fz31 := KZ1.out.frozen 3
    have p01 := KP1.out.cell 0
    have p11 := KP1.out.cell 1
    have p21 := KP1.out.cell 2
    have p31 := KP1.out.cell 3
    have p41 := KP1.out.cell 4
    have p51 := KP1.out.cell 5
    have p61 := KP1.out.cell 6
    have p71 := KP1.out.cell 7
    simp at z01 z11 z21 z31 p01 p11 p21 p31 p41 p51 p61 p71
    clear hb1
    go_wp2_with (fail)
    refine bodyPost_ret (v := .tuple #[.agg #[.int .i64 0, .int .i64 0, .slice none 0 0, .slice none 0 0], .bool false]) ?_ rfl ⟨_, rfl, RingOut.zero, store4_below BW1.out (by omega)⟩
    exact results_cell_flag rfl _ _ (w.heap.size + 1 + 1) 25 _ _ _ rfl rfl (store4_blk KZ1.out) Try.underlying25 rfl (by kernel_rfl)
  · have VP0 := hp
    simp only [prN, prO, prT, hp, if_true]
    obtain ⟨_, _, _, _, v1, v2, hsz⟩ := prod_bounds hp
    obtain ⟨m, e, b1, o1, b2, o2, rfl, rfl, rfl, rfl, hr, _⟩ := valid_data v1 IX.out IY.out hca hcb
    obtain ⟨q, f, c1, p1', c2, p2', rfl, rfl, rfl, rfl, hs, _⟩ := valid_data v2 IX'.out IY'.out hca' hcb'
    have hm := hr.hm
    have hq := hs.hm
    have eN : (m : Int) * q = ((m * q : Nat) : Int) := by simp
    have hz : m * q ≤ 16 := by
      rw [eN] at hsz
      omega
    have hz1 : 1 ≤ m * q := Nat.mul_pos hm hq
    have VP := Lib.hid VP0
    have e5 : ((m : Int) * q).toNat = m * q := by rw [eN]; exact Int.toNat_natCast _
    simp only [e5, Int.toNat_natCast]
    have HR := Lib.hid hr
    have HS := Lib.hid hs
    clear hr hs e5 v1 v2 hp VP0 hsz eN
    go_enter Try.func29, Try.ntmps29
    go_upto_region 2 with (fail)
    rw [HW.out]
    go_wp2_with (fail)
    refine (paValid_any m e _ _ la ca lb cb X Y q f _ _ la' ca' lb' cb' X' Y' W IX.out IY.out hla hlb hca hcb IX'.out IY'.out hla' hlb' hca' hcb').mono ?_
    rintro e1 w1 ⟨rfl, hb1⟩
    rw [VP.out]
    have KZ1 := Lib.hid (KZ.out.below hb1 KZ.out.lt)
    have KP1 := Lib.hid (KP.out.below hb1 KP.out.lt)
    have BW1 := Lib.hid (BW.out.trans (hb1.mono BW.out.size))
    have z01 := KZ1.out.cell 0
    have z11 := KZ1.out.cell 1
    have z21 := KZ1.out.cell 2
    have z31 := KZ1.out.cell 3
    have fz01 := KZ1.out.frozen 0
    have fz11 := KZ1.out.frozen 1
    have fz21 := KZ1.out.frozen 2
    have fz31 := KZ1.out.frozen 3
    have p01 := KP1.out.cell 0
    have p11 := KP1.out.cell 1
    have p21 := KP1.out.cell 2
    have p31 := KP1.out.cell 3
    have p41 := KP1.out.cell 4
    have p51 := KP1.out.cell 5
    have p61 := KP1.out.cell 6
    have p71 := KP1.out.cell 7
    simp at z01 z11 z21 z31 p01 p11 p21 p31 p41 p51 p61 p71
    have hr1 := Lib.hid (HR.out.next hb1)
    have hs1 := Lib.hid (HS.out.next hb1)
    clear hb1
    go_wp2_with (fail)
    refine (madePa_any _ (m * q) (e * q + f) _ _ _ _ _ _ _ hz1 hz w1 (making_pa m e b1 o1 la ca b2 o2 lb cb (tabOf X) (tabOf Y) q f c1 p1' la' ca' c2 p2' lb' cb' (tabOf X') (tabOf Y') w1 hr1.out hs1.out hz)).mono ?_
    rintro e2 w2 ⟨v2, rfl, hn2, hb2⟩
    obtain ⟨C1, l1, k1, C2, l2, k2, rfl, q1, q2, q3⟩ := hn2.out (sqN hz) tabG_length tabG_length
    have Q1 := Lib.hid q1
    have Q2 := Lib.hid q2
    have Q3 := Lib.hid q3
    clear hn2 q1 q2 q3
    have KZ2 := Lib.hid (KZ1.out.below hb2 KZ1.out.lt)
    have KP2 := Lib.hid (KP1.out.below hb2 KP1.out.lt)
    have BW2 := Lib.hid (BW1.out.trans (hb2.mono BW1.out.size))
    have z02 := KZ2.out.cell 0
    have z12 := KZ2.out.cell 1
    have z22 := KZ2.out.cell 2
    have z32 := KZ2.out.cell 3
    have fz02 := KZ2.out.frozen 0
    have fz12 := KZ2.out.frozen 1
    have fz22 := KZ2.out.frozen 2
    have fz32 := KZ2.out.frozen 3
    have p02 := KP2.out.cell 0
    have p12 := KP2.out.cell 1
    have p22 := KP2.out.cell 2
    have p32 := KP2.out.cell 3
    have p42 := KP2.out.cell 4
    have p52 := KP2.out.cell 5
    have p62 := KP2.out.cell 6
    have p72 := KP2.out.cell 7
    simp at z02 z12 z22 z32 p02 p12 p22 p32 p42 p52 p62 p72
    clear hb2
    go_wp2_with (fail)
    refine bodyPost_ret (v := .tuple #[.agg #[.int .i64 ((m : Int) * q), .int .i64 ((e : Int) * q + f), .slice C1 l1 k1, .slice C2 l2 k2], .bool true]) ?_ rfl ⟨_, rfl, ?_, store4_below BW2.out (by omega)⟩
    · exact results_cell_flag rfl _ _ (w.heap.size + 1 + 1) 25 _ _ _ rfl rfl (store4_blk KZ2.out) Try.underlying25 rfl (by kernel_rfl)
    · exact RingOut.lower (store4_out ⟨C1, l1, k1, C2, l2, k2, rfl, Q1.out, Q2.out, Q3.out⟩ (show w.heap.size + 1 + 1 < w1.heap.size from KZ1.out.lt)) BW1.out.size

end Go.Proofs.Ytihjnjcfiipcoaa


/- ProductRing of both sides, and the blocks of what it hands back. -/
namespace Go.Proofs.Ytihjnjcfiipcoaa
open Go.RowKit
set_option maxRecDepth 100000

set_option maxHeartbeats 4000000 in
theorem sproductB_any (n o : Int) (A B : Option Addr) (la ca lb cb : Nat) (X Y : List Int) (n' o' : Int) (A' B' : Option Addr) (la' ca' lb' cb' : Nat) (X' Y' : List Int) (w : World) (hX : Ints w w.heap.size A la X) (hY : Ints w w.heap.size B lb Y) (hla : la ≤ 9223372036854775807) (hlb : lb ≤ 9223372036854775807) (hca : la ≤ ca) (hcb : lb ≤ cb) (hX' : Ints w w.heap.size A' la' X') (hY' : Ints w w.heap.size B' lb' Y') (hla' : la' ≤ 9223372036854775807) (hlb' : lb' ≤ 9223372036854775807) (hca' : la' ≤ ca') (hcb' : lb' ≤ cb') :
    Calls Try.prog 30 #[.agg #[.int .i64 n, .int .i64 o, .slice A la ca, .slice B lb cb], .agg #[.int .i64 n', .int .i64 o', .slice A' la' ca', .slice B' lb' cb']] w fun e w' => ∃ v, e = .returned (.tuple #[v, .bool (prodB n o X Y n' o' X' Y')]) ∧ RingOutB w.heap.size w' v (prN n o X Y n' o' X' Y') (prO n o X Y n' o' X' Y') (prT X X' n o X Y n' o' X' Y') (prT Y Y' n o X Y n' o' X' Y') ∧ Below w.heap.size w w' := by
  obtain ⟨W, hW⟩ : ∃ W, ((w.alloc (.cells #[.int .i64 n, .int .i64 o, .slice A la ca, .slice B lb cb] 25)).alloc (.cells #[.int .i64 n', .int .i64 o', .slice A' la' ca', .slice B' lb' cb'] 25)).alloc (.cells #[.int .i64 0, .int .i64 0, .slice none 0 0, .slice none 0 0] 25) = W := ⟨_, rfl⟩
  have kR : Blk W w.heap.size 25 #[.int .i64 n, .int .i64 o, .slice A la ca, .slice B lb cb] := by
    subst hW; exact ((Blk.new w _ _).alloc _).alloc _
  have kS : Blk W (w.heap.size + 1) 25 #[.int .i64 n', .int .i64 o', .slice A' la' ca', .slice B' lb' cb'] := by
    subst hW
    have := (Blk.new (w.alloc (.cells #[.int .i64 n, .int .i64 o, .slice A la ca, .slice B lb cb] 25)) 25 #[.int .i64 n', .int .i64 o', .slice A' la' ca', .slice B' lb' cb']).alloc (.cells #[.int .i64 0, .int .i64 0, .slice none 0 0, .slice none 0 0] 25)
    rw [World.size_alloc] at this
    exact this
  have kZ : Blk W (w.heap.size + 1 + 1) 25 #[.int .i64 0, .int .i64 0, .slice none 0 0, .slice none 0 0] := by
    subst hW
    have := Blk.new ((w.alloc (.cells #[.int .i64 n, .int .i64 o, .slice A la ca, .slice B lb cb] 25)).alloc (.cells #[.int .i64 n', .int .i64 o', .slice A' la' ca', .slice B' lb' cb'] 25)) 25 #[.int .i64 0, .int .i64 0, .slice none 0 0, .slice none 0 0]
    rw [World.size_alloc, World.size_alloc] at this
    exact this
  have bW : Below w.heap.size w W := by
    subst hW
    exact (((Below.refl _ _).alloc (Nat.le_refl _) _).alloc (by simp) _).alloc (by simp; omega) _
  have KR := Lib.hid kR
  have KS := Lib.hid kS
  have KZ := Lib.hid kZ
  have BW := Lib.hid bW
  have lW : w.heap.size + 1 + 1 < W.heap.size := kZ.lt
  have x0 := kR.cell 0
  have x1 := kR.cell 1
  have x2 := kR.cell 2
  have x3 := kR.cell 3
  have y0 := kS.cell 0
  have y1 := kS.cell 1
  have y2 := kS.cell 2
  have y3 := kS.cell 3
  have z0 := kZ.cell 0
  have z1 := kZ.cell 1
  have z2 := kZ.cell 2
  have z3 := kZ.cell 3
  have fz0 := kZ.frozen 0
  have fz1 := kZ.frozen 1
  have fz2 := kZ.frozen 2
  have fz3 := kZ.frozen 3
  simp at x0 x1 x2 x3 y0 y1 y2 y3 z0 z1 z2 z3
  have IX := Lib.hid (hX.next bW)
  have IY := Lib.hid (hY.next bW)
  have IX' := Lib.hid (hX'.next bW)
  have IY' := Lib.hid (hY'.next bW)
  have HW := Lib.hid hW
  clear kR kS kZ bW hW
  cases v1 : validB n o X Y
  · have V1 := Lib.hid v1
    have hp : prodB n o X Y n' o' X' Y' = false := by simp [prodB, v1]
    simp only [prN, prO, prT, hp, Bool.false_eq_true, if_false]
    clear v1
    go_enter Try.func30, Try.ntmps30
    go_upto_region 1 with (fail)
    rw [HW.out]
    go_wp2_with (first
      | (go_at_call 66; (with_reducible refine (specValid_any n o A B la ca lb cb X Y _ IX.out IY.out hla hlb hca hcb).mono ?_); rintro e1 w1 ⟨rfl, hb1⟩; rw [V1.out]; have KR1 := Lib.hid (KR.out.below hb1 KR.out.lt); have KS1 := Lib.hid (KS.out.below hb1 KS.out.lt); have KZ1 := Lib.hid (KZ.out.below hb1 KZ.out.lt); have BW1 := Lib.hid (BW.out.trans (hb1.mono BW.out.size)); have IX1 := Lib.hid (IX.out.next hb1); have IY1 := Lib.hid (IY.out.next hb1); have IX'1 := Lib.hid (IX'.out.next hb1); have IY'1 := Lib.hid (IY'.out.next hb1); have BD1 := Lib.hid (show Below W.heap.size W w1 from hb1); clear hb1; have x01 := KR1.out.cell 0; have x11 := KR1.out.cell 1; have x21 := KR1.out.cell 2; have x31 := KR1.out.cell 3; have y01 := KS1.out.cell 0; have y11 := KS1.out.cell 1; have y21 := KS1.out.cell 2; have y31 := KS1.out.cell 3; have z01 := KZ1.out.cell 0; have z11 := KZ1.out.cell 1; have z21 := KZ1.out.cell 2; have z31 := KZ1.out.cell 3; have fz01 := KZ1.out.frozen 0; have fz11 := KZ1.out.frozen 1; have fz21 := KZ1.out.frozen 2; have fz31 := KZ1.out.frozen 3; simp at x01 x11 x21 x31 y01 y11 y21 y31 z01 z11 z21 z31)
      | (go_at_call 66; (with_reducible refine (specValid_any n' o' A' B' la' ca' lb' cb' X' Y' _ IX'1.out IY'1.out hla' hlb' hca' hcb').mono ?_); rintro e2 w2 ⟨rfl, hb2⟩; rw [V2.out]; have KR2 := Lib.hid (KR1.out.below hb2 KR1.out.lt); have KS2 := Lib.hid (KS1.out.below hb2 KS1.out.lt); have KZ2 := Lib.hid (KZ1.out.below hb2 KZ1.out.lt); have BW2 := Lib.hid (BW1.out.trans (hb2.mono BW1.out.size)); have IX2 := Lib.hid (IX1.out.next hb2); have IY2 := Lib.hid (IY1.out.next hb2); have IX'2 := Lib.hid (IX'1.out.next hb2); have IY'2 := Lib.hid (IY'1.out.next hb2); have BD2 := Lib.hid (show Below W.heap.size W w2 from BD1.out.trans (hb2.mono BD1.out.size)); clear hb2; have x02 := KR2.out.cell 0; have x12 := KR2.out.cell 1; have x22 := KR2.out.cell 2; have x32 := KR2.out.cell 3; have y02 := KS2.out.cell 0; have y12 := KS2.out.cell 1; have y22 := KS2.out.cell 2; have y32 := KS2.out.cell 3; have z02 := KZ2.out.cell 0; have z12 := KZ2.out.cell 1; have z22 := KZ2.out.cell 2; have z32 := KZ2.out.cell 3; have fz02 := KZ2.out.frozen 0; have fz12 := KZ2.out.frozen 1; have fz22 := KZ2.out.frozen 2; have fz32 := KZ2.out.frozen 3; simp at x02 x12 x22 x32 y02 y12 y22 y32 z02 z12 z22 z32))
    refine bodyPost_ret (v := .tuple #[.agg #[.int .i64 0, .int .i64 0, .slice none 0 0, .slice none 0 0], .bool false]) ?_ rfl ⟨_, rfl, RingOutB.zero, store4_below BW1.out (by omega)⟩
    exact results_cell_flag rfl _ _ (w.heap.size + 1 + 1) 25 _ _ _ rfl rfl (store4_blk KZ1.out) Try.underlying25 rfl (by kernel_rfl)
  · have V1 := Lib.hid v1
    cases v2 : validB n' o' X' Y'
    · have V2 := Lib.hid v2
      have hp : prodB n o X Y n' o' X' Y' = false := by simp [prodB, v2]
      simp only [prN, prO, prT, hp, Bool.false_eq_true, if_false]
      clear v1 v2
      go_enter Try.func30, Try.ntmps30
      go_upto_region 1 with (fail)
      rw [HW.out]
      go_wp2_with (first
        | (go_at_call 66; (with_reducible refine (specValid_any n o A B la ca lb cb X Y _ IX.out IY.out hla hlb hca hcb).mono ?_); rintro e1 w1 ⟨rfl, hb1⟩; rw [V1.out]; have KR1 := Lib.hid (KR.out.below hb1 KR.out.lt); have KS1 := Lib.hid (KS.out.below hb1 KS.out.lt); have KZ1 := Lib.hid (KZ.out.below hb1 KZ.out.lt); have BW1 := Lib.hid (BW.out.trans (hb1.mono BW.out.size)); have IX1 := Lib.hid (IX.out.next hb1); have IY1 := Lib.hid (IY.out.next hb1); have IX'1 := Lib.hid (IX'.out.next hb1); have IY'1 := Lib.hid (IY'.out.next hb1); have BD1 := Lib.hid (show Below W.heap.size W w1 from hb1); clear hb1; have x01 := KR1.out.cell 0; have x11 := KR1.out.cell 1; have x21 := KR1.out.cell 2; have x31 := KR1.out.cell 3; have y01 := KS1.out.cell 0; have y11 := KS1.out.cell 1; have y21 := KS1.out.cell 2; have y31 := KS1.out.cell 3; have z01 := KZ1.out.cell 0; have z11 := KZ1.out.cell 1; have z21 := KZ1.out.cell 2; have z31 := KZ1.out.cell 3; have fz01 := KZ1.out.frozen 0; have fz11 := KZ1.out.frozen 1; have fz21 := KZ1.out.frozen 2; have fz31 := KZ1.out.frozen 3; simp at x01 x11 x21 x31 y01 y11 y21 y31 z01 z11 z21 z31)
        | (go_at_call 66; (with_reducible refine (specValid_any n' o' A' B' la' ca' lb' cb' X' Y' _ IX'1.out IY'1.out hla' hlb' hca' hcb').mono ?_); rintro e2 w2 ⟨rfl, hb2⟩; rw [V2.out]; have KR2 := Lib.hid (KR1.out.below hb2 KR1.out.lt); have KS2 := Lib.hid (KS1.out.below hb2 KS1.out.lt); have KZ2 := Lib.hid (KZ1.out.below hb2 KZ1.out.lt); have BW2 := Lib.hid (BW1.out.trans (hb2.mono BW1.out.size)); have IX2 := Lib.hid (IX1.out.next hb2); have IY2 := Lib.hid (IY1.out.next hb2); have IX'2 := Lib.hid (IX'1.out.next hb2); have IY'2 := Lib.hid (IY'1.out.next hb2); have BD2 := Lib.hid (show Below W.heap.size W w2 from BD1.out.trans (hb2.mono BD1.out.size)); clear hb2; have x02 := KR2.out.cell 0; have x12 := KR2.out.cell 1; have x22 := KR2.out.cell 2; have x32 := KR2.out.cell 3; have y02 := KS2.out.cell 0; have y12 := KS2.out.cell 1; have y22 := KS2.out.cell 2; have y32 := KS2.out.cell 3; have z02 := KZ2.out.cell 0; have z12 := KZ2.out.cell 1; have z22 := KZ2.out.cell 2; have z32 := KZ2.out.cell 3; have fz02 := KZ2.out.frozen 0; have fz12 := KZ2.out.frozen 1; have fz22 := KZ2.out.frozen 2; have fz32 := KZ2.out.frozen 3; simp at x02 x12 x22 x32 y02 y12 y22 y32 z02 z12 z22 z32))
      refine bodyPost_ret (v := .tuple #[.agg #[.int .i64 0, .int .i64 0, .slice none 0 0, .slice none 0 0], .bool false]) ?_ rfl ⟨_, rfl, RingOutB.zero, store4_below BW2.out (by omega)⟩
      exact results_cell_flag rfl _ _ (w.heap.size + 1 + 1) 25 _ _ _ rfl rfl (store4_blk KZ2.out) Try.underlying25 rfl (by kernel_rfl)
    · have V2 := Lib.hid v2
      obtain ⟨m, e, b1, o1, b2, o2, rfl, rfl, rfl, rfl, hr, _⟩ := valid_data v1 IX.out IY.out hca hcb
      obtain ⟨q, f, c1, p1, c2, p2, rfl, rfl, rfl, rfl, hs, _⟩ := valid_data v2 IX'.out IY'.out hca' hcb'
      have hm := hr.hm
      have hm' := hr.hm'
      have hq := hs.hm
      have hq' := hs.hm'
      have hmq : m * q ≤ 16 * 16 := Nat.mul_le_mul hm' hq'
      have eN : (m : Int) * q = ((m * q : Nat) : Int) := by simp
      have m1 : (m : Int) * q ≤ 256 := by rw [eN]; omega
      have m2 : 0 ≤ (m : Int) * q := by rw [eN]; omega
      have HR := Lib.hid hr
      have HS := Lib.hid hs
      have EN := Lib.hid eN
      clear hr hs eN
      by_cases hsz : (m : Int) * q ≤ 16
      · have hp : prodB m e X Y q f X' Y' = true := by simp [prodB, v1, v2, hsz]
        simp only [prN, prO, prT, hp, if_true]
        clear v1 v2
        have e5 : ((m : Int) * q).toNat = m * q := by rw [EN.out]; exact Int.toNat_natCast _
        simp only [e5, Int.toNat_natCast]
        clear e5
        have hz := hsz
        rw [EN.out] at hz
        go_enter Try.func30, Try.ntmps30
        go_upto_region 1 with (fail)
        rw [HW.out]
        go_wp2_with (first
          | (go_at_call 66; (with_reducible refine (specValid_any m e _ _ la ca lb cb X Y _ IX.out IY.out hla hlb hca hcb).mono ?_); rintro e1 w1 ⟨rfl, hb1⟩; rw [V1.out]; have KR1 := Lib.hid (KR.out.below hb1 KR.out.lt); have KS1 := Lib.hid (KS.out.below hb1 KS.out.lt); have KZ1 := Lib.hid (KZ.out.below hb1 KZ.out.lt); have BW1 := Lib.hid (BW.out.trans (hb1.mono BW.out.size)); have IX1 := Lib.hid (IX.out.next hb1); have IY1 := Lib.hid (IY.out.next hb1); have IX'1 := Lib.hid (IX'.out.next hb1); have IY'1 := Lib.hid (IY'.out.next hb1); have BD1 := Lib.hid (show Below W.heap.size W w1 from hb1); clear hb1; have x01 := KR1.out.cell 0; have x11 := KR1.out.cell 1; have x21 := KR1.out.cell 2; have x31 := KR1.out.cell 3; have y01 := KS1.out.cell 0; have y11 := KS1.out.cell 1; have y21 := KS1.out.cell 2; have y31 := KS1.out.cell 3; have z01 := KZ1.out.cell 0; have z11 := KZ1.out.cell 1; have z21 := KZ1.out.cell 2; have z31 := KZ1.out.cell 3; have fz01 := KZ1.out.frozen 0; have fz11 := KZ1.out.frozen 1; have fz21 := KZ1.out.frozen 2; have fz31 := KZ1.out.frozen 3; simp at x01 x11 x21 x31 y01 y11 y21 y31 z01 z11 z21 z31)
          | (go_at_call 66; (with_reducible refine (specValid_any q f _ _ la' ca' lb' cb' X' Y' _ IX'1.out IY'1.out hla' hlb' hca' hcb').mono ?_); rintro e2 w2 ⟨rfl, hb2⟩; rw [V2.out]; have KR2 := Lib.hid (KR1.out.below hb2 KR1.out.lt); have KS2 := Lib.hid (KS1.out.below hb2 KS1.out.lt); have KZ2 := Lib.hid (KZ1.out.below hb2 KZ1.out.lt); have BW2 := Lib.hid (BW1.out.trans (hb2.mono BW1.out.size)); have IX2 := Lib.hid (IX1.out.next hb2); have IY2 := Lib.hid (IY1.out.next hb2); have IX'2 := Lib.hid (IX'1.out.next hb2); have IY'2 := Lib.hid (IY'1.out.next hb2); have BD2 := Lib.hid (show Below W.heap.size W w2 from BD1.out.trans (hb2.mono BD1.out.size)); clear hb2; have x02 := KR2.out.cell 0; have x12 := KR2.out.cell 1; have x22 := KR2.out.cell 2; have x32 := KR2.out.cell 3; have y02 := KS2.out.cell 0; have y12 := KS2.out.cell 1; have y22 := KS2.out.cell 2; have y32 := KS2.out.cell 3; have z02 := KZ2.out.cell 0; have z12 := KZ2.out.cell 1; have z22 := KZ2.out.cell 2; have z32 := KZ2.out.cell 3; have fz02 := KZ2.out.frozen 0; have fz12 := KZ2.out.frozen 1; have fz22 := KZ2.out.frozen 2; have fz32 := KZ2.out.frozen 3; simp at x02 x12 x22 x32 y02 y12 y22 y32 z02 z12 z22 z32)
          | (go_at_call 91; refine (l1Product_any _ _ _ _ _ _ _ _ _ _ _ _ _ _ _ _ _ _ _ _ _ _ _ _ _ (HR.out.next BD2.out) (HS.out.next BD2.out) (by omega)).mono ?_; rintro e3 w3 ⟨v3, rfl, hn3, hb3⟩; obtain ⟨C1, l1, k1, C2, l2, k2, rfl, q1, q2, q3⟩ := hn3.outB (sqN (by omega)) tabG_length tabG_length; have Q1 := Lib.hid q1; have Q2 := Lib.hid q2; have Q3 := Lib.hid q3; clear hn3 q1 q2 q3; have KR3 := Lib.hid (KR2.out.below hb3 KR2.out.lt); have KS3 := Lib.hid (KS2.out.below hb3 KS2.out.lt); have KZ3 := Lib.hid (KZ2.out.below hb3 KZ2.out.lt); have BW3 := Lib.hid (BW2.out.trans (hb3.mono BW2.out.size)); have IX3 := Lib.hid (IX2.out.next hb3); have IY3 := Lib.hid (IY2.out.next hb3); have IX'3 := Lib.hid (IX'2.out.next hb3); have IY'3 := Lib.hid (IY'2.out.next hb3); clear hb3; have x03 := KR3.out.cell 0; have x13 := KR3.out.cell 1; have x23 := KR3.out.cell 2; have x33 := KR3.out.cell 3; have y03 := KS3.out.cell 0; have y13 := KS3.out.cell 1; have y23 := KS3.out.cell 2; have y33 := KS3.out.cell 3; have z03 := KZ3.out.cell 0; have z13 := KZ3.out.cell 1; have z23 := KZ3.out.cell 2; have z33 := KZ3.out.cell 3; have fz03 := KZ3.out.frozen 0; have fz13 := KZ3.out.frozen 1; have fz23 := KZ3.out.frozen 2; have fz33 := KZ3.out.frozen 3; simp at x03 x13 x23 x33 y03 y13 y23 y33 z03 z13 z23 z33))
        refine bodyPost_ret (v := .tuple #[.agg #[.int .i64 ((m : Int) * q), .int .i64 ((e : Int) * q + f), .slice C1 l1 k1, .slice C2 l2 k2], .bool true]) ?_ rfl ⟨_, rfl, ?_, store4_below BW3.out (by omega)⟩
        · exact results_cell_flag rfl _ _ (w.heap.size + 1 + 1) 25 _ _ _ rfl rfl (store4_blk KZ3.out) Try.underlying25 rfl (by kernel_rfl)
        · exact RingOutB.lower (store4_outB ⟨C1, l1, k1, C2, l2, k2, rfl, Q1.out, Q2.out, Q3.out⟩ (show w.heap.size + 1 + 1 < w2.heap.size from KZ2.out.lt)) BW2.out.size
      · have hp : prodB m e X Y q f X' Y' = false := by simp [prodB]; omega
        simp only [prN, prO, prT, hp, Bool.false_eq_true, if_false]
        clear v1 v2
        go_enter Try.func30, Try.ntmps30
        go_upto_region 1 with (fail)
        rw [HW.out]
        go_wp2_with (first
          | (go_at_call 66; (with_reducible refine (specValid_any m e _ _ la ca lb cb X Y _ IX.out IY.out hla hlb hca hcb).mono ?_); rintro e1 w1 ⟨rfl, hb1⟩; rw [V1.out]; have KR1 := Lib.hid (KR.out.below hb1 KR.out.lt); have KS1 := Lib.hid (KS.out.below hb1 KS.out.lt); have KZ1 := Lib.hid (KZ.out.below hb1 KZ.out.lt); have BW1 := Lib.hid (BW.out.trans (hb1.mono BW.out.size)); have IX1 := Lib.hid (IX.out.next hb1); have IY1 := Lib.hid (IY.out.next hb1); have IX'1 := Lib.hid (IX'.out.next hb1); have IY'1 := Lib.hid (IY'.out.next hb1); have BD1 := Lib.hid (show Below W.heap.size W w1 from hb1); clear hb1; have x01 := KR1.out.cell 0; have x11 := KR1.out.cell 1; have x21 := KR1.out.cell 2; have x31 := KR1.out.cell 3; have y01 := KS1.out.cell 0; have y11 := KS1.out.cell 1; have y21 := KS1.out.cell 2; have y31 := KS1.out.cell 3; have z01 := KZ1.out.cell 0; have z11 := KZ1.out.cell 1; have z21 := KZ1.out.cell 2; have z31 := KZ1.out.cell 3; have fz01 := KZ1.out.frozen 0; have fz11 := KZ1.out.frozen 1; have fz21 := KZ1.out.frozen 2; have fz31 := KZ1.out.frozen 3; simp at x01 x11 x21 x31 y01 y11 y21 y31 z01 z11 z21 z31)
          | (go_at_call 66; (with_reducible refine (specValid_any q f _ _ la' ca' lb' cb' X' Y' _ IX'1.out IY'1.out hla' hlb' hca' hcb').mono ?_); rintro e2 w2 ⟨rfl, hb2⟩; rw [V2.out]; have KR2 := Lib.hid (KR1.out.below hb2 KR1.out.lt); have KS2 := Lib.hid (KS1.out.below hb2 KS1.out.lt); have KZ2 := Lib.hid (KZ1.out.below hb2 KZ1.out.lt); have BW2 := Lib.hid (BW1.out.trans (hb2.mono BW1.out.size)); have IX2 := Lib.hid (IX1.out.next hb2); have IY2 := Lib.hid (IY1.out.next hb2); have IX'2 := Lib.hid (IX'1.out.next hb2); have IY'2 := Lib.hid (IY'1.out.next hb2); have BD2 := Lib.hid (show Below W.heap.size W w2 from BD1.out.trans (hb2.mono BD1.out.size)); clear hb2; have x02 := KR2.out.cell 0; have x12 := KR2.out.cell 1; have x22 := KR2.out.cell 2; have x32 := KR2.out.cell 3; have y02 := KS2.out.cell 0; have y12 := KS2.out.cell 1; have y22 := KS2.out.cell 2; have y32 := KS2.out.cell 3; have z02 := KZ2.out.cell 0; have z12 := KZ2.out.cell 1; have z22 := KZ2.out.cell 2; have z32 := KZ2.out.cell 3; have fz02 := KZ2.out.frozen 0; have fz12 := KZ2.out.frozen 1; have fz22 := KZ2.out.frozen 2; have fz32 := KZ2.out.frozen 3; simp at x02 x12 x22 x32 y02 y12 y22 y32 z02 z12 z22 z32))
        refine bodyPost_ret (v := .tuple #[.agg #[.int .i64 0, .int .i64 0, .slice none 0 0, .slice none 0 0], .bool false]) ?_ rfl ⟨_, rfl, RingOutB.zero, store4_below BW2.out (by omega)⟩
        exact results_cell_flag rfl _ _ (w.heap.size + 1 + 1) 25 _ _ _ rfl rfl (store4_blk KZ2.out) Try.underlying25 rfl (by kernel_rfl)


set_option maxHeartbeats 1000000 in
theorem productB_any (n o : Int) (A B : Option Addr) (la ca lb cb : Nat) (X Y : List Int) (n' o' : Int) (A' B' : Option Addr) (la' ca' lb' cb' : Nat) (X' Y' : List Int) (w : World) (hX : Ints w w.heap.size A la X) (hY : Ints w w.heap.size B lb Y) (hla : la ≤ 9223372036854775807) (hlb : lb ≤ 9223372036854775807) (hca : la ≤ ca) (hcb : lb ≤ cb) (hX' : Ints w w.heap.size A' la' X') (hY' : Ints w w.heap.size B' lb' Y') (hla' : la' ≤ 9223372036854775807) (hlb' : lb' ≤ 9223372036854775807) (hca' : la' ≤ ca') (hcb' : lb' ≤ cb') :
    Calls Try.prog 29 #[.agg #[.int .i64 n, .int .i64 o, .slice A la ca, .slice B lb cb], .agg #[.int .i64 n', .int .i64 o', .slice A' la' ca', .slice B' lb' cb']] w fun e w' => ∃ v, e = .returned (.tuple #[v, .bool (prodB n o X Y n' o' X' Y')]) ∧ RingOutB w.heap.size w' v (prN n o X Y n' o' X' Y') (prO n o X Y n' o' X' Y') (prT X X' n o X Y n' o' X' Y') (prT Y Y' n o X Y n' o' X' Y') ∧ Below w.heap.size w w' := by
  obtain ⟨W, hW⟩ : ∃ W, (((w.alloc (.cells #[.int .i64 n, .int .i64 o, .slice A la ca, .slice B lb cb] 25)).alloc (.cells #[.int .i64 n', .int .i64 o', .slice A' la' ca', .slice B' lb' cb'] 25)).alloc (.cells #[.int .i64 0, .int .i64 0, .slice none 0 0, .slice none 0 0] 25)).alloc (.cells #[.int .i64 n, .int .i64 o, .slice A la ca, .slice B lb cb, .int .i64 n', .int .i64 o', .slice A' la' ca', .slice B' lb' cb'] 91) = W := ⟨_, rfl⟩
  have kZ : Blk W (w.heap.size + 1 + 1) 25 #[.int .i64 0, .int .i64 0, .slice none 0 0, .slice none 0 0] := by
    subst hW
    have := (Blk.new ((w.alloc (.cells #[.int .i64 n, .int .i64 o, .slice A la ca, .slice B lb cb] 25)).alloc (.cells #[.int .i64 n', .int .i64 o', .slice A' la' ca', .slice B' lb' cb'] 25)) 25 #[.int .i64 0, .int .i64 0, .slice none 0 0, .slice none 0 0]).alloc (.cells #[.int .i64 n, .int .i64 o, .slice A la ca, .slice B lb cb, .int .i64 n', .int .i64 o', .slice A' la' ca', .slice B' lb' cb'] 91)
    rw [World.size_alloc, World.size_alloc] at this
    exact this
  have kP : Blk W (w.heap.size + 1 + 1 + 1) 91 #[.int .i64 n, .int .i64 o, .slice A la ca, .slice B lb cb, .int .i64 n', .int .i64 o', .slice A' la' ca', .slice B' lb' cb'] := by
    subst hW
    have := Blk.new (((w.alloc (.cells #[.int .i64 n, .int .i64 o, .slice A la ca, .slice B lb cb] 25)).alloc (.cells #[.int .i64 n', .int .i64 o', .slice A' la' ca', .slice B' lb' cb'] 25)).alloc (.cells #[.int .i64 0, .int .i64 0, .slice none 0 0, .slice none 0 0] 25)) 91 #[.int .i64 n, .int .i64 o, .slice A la ca, .slice B lb cb, .int .i64 n', .int .i64 o', .slice A' la' ca', .slice B' lb' cb']
    rw [World.size_alloc, World.size_alloc, World.size_alloc] at this
    exact this
  have bW : Below w.heap.size w W := by
    subst hW
    exact ((((Below.refl _ _).alloc (Nat.le_refl _) _).alloc (by simp) _).alloc (by simp; omega) _).alloc (by simp; omega) _
  have KZ := Lib.hid kZ
  have KP := Lib.hid kP
  have BW := Lib.hid bW
  have lW : w.heap.size + 1 + 1 < W.heap.size := kZ.lt
  have IX := Lib.hid (hX.next bW)
  have IY := Lib.hid (hY.next bW)
  have IX' := Lib.hid (hX'.next bW)
  have IY' := Lib.hid (hY'.next bW)
  have HW := Lib.hid hW
  have p0 := kP.cell 0
  have p1 := kP.cell 1
  have p2 := kP.cell 2
  have p3 := kP.cell 3
  have p4 := kP.cell 4
  have p5 := kP.cell 5
  have p6 := kP.cell 6
  have p7 := kP.cell 7
  simp at p0 p1 p2 p3 p4 p5 p6 p7
  clear kZ kP bW hW hX hY hX' hY'
  cases hp : prodB n o X Y n' o' X' Y'
  · have VP := Lib.hid hp
    simp only [prN, prO, prT, hp, Bool.false_eq_true, if_false]
    clear hp
    go_enter Try.func29, Try.ntmps29
    go_upto_region 2 with (fail)
    rw [HW.out]
    go_wp2_with (fail)
    refine (paValid_any n o A B la ca lb cb X Y n' o' A' B' la' ca' lb' cb' X' Y' W IX.out IY.out hla hlb hca hcb IX'.out IY'.out hla' hlb' hca' hcb').mono ?_
    rintro e1 w1 ⟨rfl, hb1⟩
    rw [VP.out]
    have KZ1 := Lib.hid (KZ.out.below hb1 KZ.out.lt)
    have KP1 := Lib.hid (KP.out.below hb1 KP.out.lt)
    have BW1 := Lib.hid (BW.out.trans (hb1.mono BW.out.size))
    have z01 := KZ1.out.cell 0
    have z11 := KZ1.out.cell 1
    have z21 := KZ1.out.cell 2
    have z31 := KZ1.out.cell 3
    have fz01 := KZ1.out.frozen 0
    have fz11 := KZ1.out.frozen 1
    have fz21 := KZ1.out.frozen 2
    have fz31 := KZ1.out.frozen 3
    have p01 := KP1.out.cell 0
    have p11 := KP1.out.cell 1
    have p21 := KP1.out.cell 2
    have p31 := KP1.out.cell 3
    have p41 := KP1.out.cell 4
    have p51 := KP1.out.cell 5
    have p61 := KP1.out.cell 6
    have p71 := KP1.out.cell 7
    simp at z01 z11 z21 z31 p01 p11 p21 p31 p41 p51 p61 p71
    clear hb1
    go_wp2_with (fail)
    refine bodyPost_ret (v := .tuple #[.agg #[.int .i64 0, .int .i64 0, .slice none 0 0, .slice none 0 0], .bool false]) ?_ rfl ⟨_, rfl, RingOutB.zero, store4_below BW1.out (by omega)⟩
    exact results_cell_flag rfl _ _ (w.heap.size + 1 + 1) 25 _ _ _ rfl rfl (store4_blk KZ1.out) Try.underlying25 rfl (by kernel_rfl)
  · have VP0 := hp
    simp only [prN, prO, prT, hp, if_true]
    obtain ⟨_, _, _, _, v1, v2, hsz⟩ := prod_bounds hp
    obtain ⟨m, e, b1, o1, b2, o2, rfl, rfl, rfl, rfl, hr, _⟩ := valid_data v1 IX.out IY.out hca hcb
    obtain ⟨q, f, c1, p1', c2, p2', rfl, rfl, rfl, rfl, hs, _⟩ := valid_data v2 IX'.out IY'.out hca' hcb'
    have hm := hr.hm
    have hq := hs.hm
    have eN : (m : Int) * q = ((m * q : Nat) : Int) := by simp
    have hz : m * q ≤ 16 := by
      rw [eN] at hsz
      omega
    have hz1 : 1 ≤ m * q := Nat.mul_pos hm hq
    have VP := Lib.hid VP0
    have e5 : ((m : Int) * q).toNat = m * q := by rw [eN]; exact Int.toNat_natCast _
    simp only [e5, Int.toNat_natCast]
    have HR := Lib.hid hr
    have HS := Lib.hid hs
    clear hr hs e5 v1 v2 hp VP0 hsz eN
    go_enter Try.func29, Try.ntmps29
    go_upto_region 2 with (fail)
    rw [HW.out]
    go_wp2_with (fail)
    refine (paValid_any m e _ _ la ca lb cb X Y q f _ _ la' ca' lb' cb' X' Y' W IX.out IY.out hla hlb hca hcb IX'.out IY'.out hla' hlb' hca' hcb').mono ?_
    rintro e1 w1 ⟨rfl, hb1⟩
    rw [VP.out]
    have KZ1 := Lib.hid (KZ.out.below hb1 KZ.out.lt)
    have KP1 := Lib.hid (KP.out.below hb1 KP.out.lt)
    have BW1 := Lib.hid (BW.out.trans (hb1.mono BW.out.size))
    have z01 := KZ1.out.cell 0
    have z11 := KZ1.out.cell 1
    have z21 := KZ1.out.cell 2
    have z31 := KZ1.out.cell 3
    have fz01 := KZ1.out.frozen 0
    have fz11 := KZ1.out.frozen 1
    have fz21 := KZ1.out.frozen 2
    have fz31 := KZ1.out.frozen 3
    have p01 := KP1.out.cell 0
    have p11 := KP1.out.cell 1
    have p21 := KP1.out.cell 2
    have p31 := KP1.out.cell 3
    have p41 := KP1.out.cell 4
    have p51 := KP1.out.cell 5
    have p61 := KP1.out.cell 6
    have p71 := KP1.out.cell 7
    simp at z01 z11 z21 z31 p01 p11 p21 p31 p41 p51 p61 p71
    have hr1 := Lib.hid (HR.out.next hb1)
    have hs1 := Lib.hid (HS.out.next hb1)
    clear hb1
    go_wp2_with (fail)
    refine (madePa_any _ (m * q) (e * q + f) _ _ _ _ _ _ _ hz1 hz w1 (making_pa m e b1 o1 la ca b2 o2 lb cb (tabOf X) (tabOf Y) q f c1 p1' la' ca' c2 p2' lb' cb' (tabOf X') (tabOf Y') w1 hr1.out hs1.out hz)).mono ?_
    rintro e2 w2 ⟨v2, rfl, hn2, hb2⟩
    obtain ⟨C1, l1, k1, C2, l2, k2, rfl, q1, q2, q3⟩ := hn2.outB (sqN hz) tabG_length tabG_length
    have Q1 := Lib.hid q1
    have Q2 := Lib.hid q2
    have Q3 := Lib.hid q3
    clear hn2 q1 q2 q3
    have KZ2 := Lib.hid (KZ1.out.below hb2 KZ1.out.lt)
    have KP2 := Lib.hid (KP1.out.below hb2 KP1.out.lt)
    have BW2 := Lib.hid (BW1.out.trans (hb2.mono BW1.out.size))
    have z02 := KZ2.out.cell 0
    have z12 := KZ2.out.cell 1
    have z22 := KZ2.out.cell 2
    have z32 := KZ2.out.cell 3
    have fz02 := KZ2.out.frozen 0
    have fz12 := KZ2.out.frozen 1
    have fz22 := KZ2.out.frozen 2
    have fz32 := KZ2.out.frozen 3
    have p02 := KP2.out.cell 0
    have p12 := KP2.out.cell 1
    have p22 := KP2.out.cell 2
    have p32 := KP2.out.cell 3
    have p42 := KP2.out.cell 4
    have p52 := KP2.out.cell 5
    have p62 := KP2.out.cell 6
    have p72 := KP2.out.cell 7
    simp at z02 z12 z22 z32 p02 p12 p22 p32 p42 p52 p62 p72
    clear hb2
    go_wp2_with (fail)
    refine bodyPost_ret (v := .tuple #[.agg #[.int .i64 ((m : Int) * q), .int .i64 ((e : Int) * q + f), .slice C1 l1 k1, .slice C2 l2 k2], .bool true]) ?_ rfl ⟨_, rfl, ?_, store4_below BW2.out (by omega)⟩
    · exact results_cell_flag rfl _ _ (w.heap.size + 1 + 1) 25 _ _ _ rfl rfl (store4_blk KZ2.out) Try.underlying25 rfl (by kernel_rfl)
    · exact RingOutB.lower (store4_outB ⟨C1, l1, k1, C2, l2, k2, rfl, Q1.out, Q2.out, Q3.out⟩ (show w.heap.size + 1 + 1 < w1.heap.size from KZ1.out.lt)) BW1.out.size


end Go.Proofs.Ytihjnjcfiipcoaa


/- Products: plain facts. -/
namespace Go.Proofs.Ytihjnjcfiipcoaa
open Go.RowKit

theorem pr_div {x y q : Nat} (hy : y < q) : (x * q + y) / q = x := by
  rw [Nat.mul_comm, Nat.mul_add_div (by omega), Nat.div_eq_of_lt hy, Nat.add_zero]
theorem pr_mod {x y q : Nat} (hy : y < q) : (x * q + y) % q = y := by
  rw [Nat.mul_comm, Nat.mul_add_mod, Nat.mod_eq_of_lt hy]
theorem pr_lt {x y m q : Nat} (hx : x < m) (hy : y < q) : x * q + y < m * q := by
  have : (x + 1) * q ≤ m * q := Nat.mul_le_mul_right _ hx
  rw [Nat.add_mul, Nat.one_mul] at this
  omega
section
variable {m e q f : Nat} {S P T U : Nat → Nat}
theorem prodF_pair {a b c d : Nat} (hb : b < q) (hd : d < q) : prodF m q S T (a * q + b) (c * q + d) = S (a * m + c) * q + T (b * q + d) := by
  unfold prodF
  rw [pr_div hb, pr_mod hb, pr_div hd, pr_mod hd]
/-- A product of rings is a ring. -/
theorem prod_fring (R : RTab m S P e) (Q : RTab q T U f) : FRing (m * q) (e * q + f) (prodF m q S T) (prodF m q P U) := by
  have hq := Q.hm
  have split : ∀ a, a < m * q → ∃ x y, x < m ∧ y < q ∧ a = x * q + y := fun a ha => ⟨a / q, a % q, (prod_parts hq ha).1, (prod_parts hq ha).2, by rw [Nat.mul_comm]; exact (Nat.div_add_mod a q).symm⟩
  refine ⟨Nat.mul_pos R.hm Q.hm, pr_lt R.he Q.he, ?_, ?_, ?_, ?_, ?_, ?_, ?_, ?_, ?_, ?_⟩
  · intro a b ha hb
    obtain ⟨x, y, hx, hy, rfl⟩ := split a ha
    obtain ⟨z, u, hz, hu, rfl⟩ := split b hb
    rw [prodF_pair hy hu]
    exact pr_lt (R.sc hx hz) (Q.sc hy hu)
  · intro a b ha hb
    obtain ⟨x, y, hx, hy, rfl⟩ := split a ha
    obtain ⟨z, u, hz, hu, rfl⟩ := split b hb
    rw [prodF_pair hy hu]
    exact pr_lt (R.pc hx hz) (Q.pc hy hu)
  · intro a ha
    obtain ⟨x, y, hx, hy, rfl⟩ := split a ha
    have := prodF_pair (m := m) (S := S) (T := T) (a := x) (c := 0) hy Q.hm
    rw [Nat.zero_mul, Nat.zero_add] at this
    rw [this]
    have h1 : S (x * m + 0) = x := R.s.zero hx
    have h2 : T (y * q + 0) = y := Q.s.zero hy
    rw [h1, h2]
  · intro a b ha hb
    obtain ⟨x, y, hx, hy, rfl⟩ := split a ha
    obtain ⟨z, u, hz, hu, rfl⟩ := split b hb
    rw [prodF_pair hy hu, prodF_pair hu hy, R.s.comm hx hz, Q.s.comm hy hu]
  · intro a b c ha hb hc
    obtain ⟨x, y, hx, hy, rfl⟩ := split a ha
    obtain ⟨z, u, hz, hu, rfl⟩ := split b hb
    obtain ⟨v, w, hv, hw, rfl⟩ := split c hc
    rw [prodF_pair hy hu, prodF_pair hu hw, prodF_pair (Q.sc hy hu) hw, prodF_pair hy (Q.sc hu hw), R.s.assoc hx hz hv, Q.s.assoc hy hu hw]
  · intro a ha
    obtain ⟨x, y, hx, hy, rfl⟩ := split a ha
    obtain ⟨c, hc, _, h1⟩ := R.negEx hx
    obtain ⟨d, hd, _, h2⟩ := Q.negEx hy
    exact ⟨c * q + d, pr_lt hc hd, by rw [prodF_pair hy hd, h1, h2]; simp⟩
  · intro a ha
    obtain ⟨x, y, hx, hy, rfl⟩ := split a ha
    rw [prodF_pair hy Q.he]
    have h1 : P (x * m + e) = x := R.p.zero hx
    have h2 : U (y * q + f) = y := Q.p.zero hy
    rw [h1, h2]
  · intro a b ha hb
    obtain ⟨x, y, hx, hy, rfl⟩ := split a ha
    obtain ⟨z, u, hz, hu, rfl⟩ := split b hb
    rw [prodF_pair hy hu, prodF_pair hu hy, R.p.comm hx hz, Q.p.comm hy hu]
  · intro a b c ha hb hc
    obtain ⟨x, y, hx, hy, rfl⟩ := split a ha
    obtain ⟨z, u, hz, hu, rfl⟩ := split b hb
    obtain ⟨v, w, hv, hw, rfl⟩ := split c hc
    rw [prodF_pair hy hu, prodF_pair hu hw, prodF_pair (Q.pc hy hu) hw, prodF_pair hy (Q.pc hu hw), R.p.assoc hx hz hv, Q.p.assoc hy hu hw]
  · intro a b c ha hb hc
    obtain ⟨x, y, hx, hy, rfl⟩ := split a ha
    obtain ⟨z, u, hz, hu, rfl⟩ := split b hb
    obtain ⟨v, w, hv, hw, rfl⟩ := split c hc
    rw [prodF_pair hu hw, prodF_pair hy (Q.sc hu hw), prodF_pair hy hu, prodF_pair hy hw, prodF_pair (Q.pc hy hu) (Q.pc hy hw)]
    have h1 : P (x * m + S (z * m + v)) = S (P (x * m + z) * m + P (x * m + v)) := R.d x hx z hz v hv
    have h2 : U (y * q + T (u * q + w)) = T (U (y * q + u) * q + U (y * q + w)) := Q.d y hy u hu w hw
    rw [h1, h2]
theorem prod_seq (R : RTab m S P e) (Q : RTab q T U f) {x y : Nat} (hx : x < m) (hy : y < q) : ∀ k, seqT (m * q) (tabOf (tabZ (m * q) (prodF m q S T) (m * q * (m * q)))) (x * q + y) k = seqT m S x k * q + seqT q T y k
  | 0 => by simp only [seqT]; omega
  | k + 1 => by
    show tabOf _ (seqT (m * q) _ (x * q + y) k * (m * q) + (x * q + y)) = _
    rw [prod_seq R Q hx hy k, tabOf_tabZ (pr_lt (R.seq_lt hx k) (Q.seq_lt hy k)) (pr_lt hx hy), prodF_pair (Q.seq_lt hy k) hy]
    rfl
/-- The characteristic of a product: both divide it, and it divides their product. -/
theorem prod_char (R : RTab m S P e) (Q : RTab q T U f) (hmq : m * q ≤ 16) {c d g : Nat} (hc : ordN m S e = c) (hd : ordN q T f = d) (hg : ordN (m * q) (tabOf (tabZ (m * q) (prodF m q S T) (m * q * (m * q)))) (e * q + f) = g) :
    c ∣ g ∧ d ∣ g ∧ g ∣ c * d := by
  have R3 := rtab_of_valid ((prod_fring R Q).valid hmq)
  have he3 := R3.he
  obtain ⟨_, _, h3, _⟩ := R3.ord he3
  rw [hg, prod_seq R Q R.he Q.he] at h3
  have hq := Q.hm
  have h4 : seqT m S e g * q = 0 := by omega
  have h5 : seqT q T f g = 0 := by omega
  have h6 : seqT m S e g = 0 := by
    rcases Nat.eq_zero_or_pos (seqT m S e g) with h | h
    · exact h
    · have := Nat.mul_pos h hq; omega
  refine ⟨?_, ?_, ?_⟩
  · rw [← hc]; exact R.ord_dvd R.he h6
  · rw [← hd]; exact Q.ord_dvd Q.he h5
  · rw [← hg]
    refine R3.ord_dvd he3 ?_
    have k1 : seqT m S e (c * d) = 0 := by rw [← hc]; exact R.seq_ords R.he d
    have k2 : seqT q T f (c * d) = 0 := by rw [Nat.mul_comm, ← hd]; exact Q.seq_ords Q.he c
    rw [prod_seq R Q R.he Q.he, k1, k2]; simp
end
theorem prod_eqs {m e q f : Nat} {X Y X' Y' : List Int} (h : prodB m e X Y q f X' Y' = true) :
    prN m e X Y q f X' Y' = ((m * q : Nat) : Int) ∧ prO m e X Y q f X' Y' = ((e * q + f : Nat) : Int) ∧ prT X X' m e X Y q f X' Y' = tabZ (m * q) (prodF m q (tabOf X) (tabOf X')) (m * q * (m * q)) ∧ prT Y Y' m e X Y q f X' Y' = tabZ (m * q) (prodF m q (tabOf Y) (tabOf Y')) (m * q * (m * q)) := by
  have e1 : ((m : Int) * (q : Int)).toNat = m * q := by rw [← Int.natCast_mul]; exact Int.toNat_natCast _
  refine ⟨?_, ?_, ?_, ?_⟩
  · unfold prN; rw [if_pos h]; simp
  · unfold prO; rw [if_pos h]; simp
  · unfold prT; rw [if_pos h, e1]; rfl
  · unfold prT; rw [if_pos h, e1]; rfl
theorem part_nat {m e q f a : Nat} {X Y X' Y' : List Int} (h : prodB m e X Y q f X' Y' = true) (ha : a < m * q) (s : Bool) : partV m e X Y q f X' Y' a s = ((if s then a % q else a / q : Nat) : Int) := by
  have hin : inB ((m : Int) * (q : Int)) (a : Int) = true := inB_iff.2 ⟨by omega, by rw [← Int.natCast_mul]; omega⟩
  rw [partV_yes ⟨h, hin⟩]
  cases s <;> simp
theorem pair_nat {m e q f a b : Nat} {X Y X' Y' : List Int} (h : prodB m e X Y q f X' Y' = true) (ha : a < m) (hb : b < q) : pairV m e X Y q f X' Y' a b = ((a * q + b : Nat) : Int) := by
  rw [pairV_yes ⟨h, inB_iff.2 ⟨by omega, by omega⟩, inB_iff.2 ⟨by omega, by omega⟩⟩]
  simp

end Go.Proofs.Ytihjnjcfiipcoaa
