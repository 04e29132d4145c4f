/- The making of pairs over rings that are there. -/
import Derived.Test.YtplligjoegjngaaH1
import Derived.Test.YtplligjoegjngaaG3
namespace Go.Proofs.Ytplligjoegjngaa
open Go.RowKit
set_option maxRecDepth 100000

theorem paOne_any (m e b1 o1 la ca b2 o2 lb cb q f c1 p1 ka da c2 p2 kb db : Nat) (w : World) :
    Calls Try.prog 179 #[.agg #[.int .i64 m, .int .i64 e, .slice (some ⟨b1, o1, none⟩) la ca, .slice (some ⟨b2, o2, none⟩) lb cb, .int .i64 q, .int .i64 f, .slice (some ⟨c1, p1, none⟩) ka da, .slice (some ⟨c2, p2, none⟩) kb db]] w fun e' w' => e' = .returned (.agg #[.int .i64 e, .int .i64 f]) ∧ Below w.heap.size w w' := by
  obtain ⟨W, hW⟩ : ∃ W, (w.alloc (.cells #[.int .i64 m, .int .i64 e, .slice (some ⟨b1, o1, none⟩) la ca, .slice (some ⟨b2, o2, none⟩) lb cb, .int .i64 q, .int .i64 f, .slice (some ⟨c1, p1, none⟩) ka da, .slice (some ⟨c2, p2, none⟩) kb db] 70)).alloc (.cells #[.int .i64 0, .int .i64 0] 73) = W := ⟨_, rfl⟩
  have kP : Blk W w.heap.size 70 #[.int .i64 m, .int .i64 e, .slice (some ⟨b1, o1, none⟩) la ca, .slice (some ⟨b2, o2, none⟩) lb cb, .int .i64 q, .int .i64 f, .slice (some ⟨c1, p1, none⟩) ka da, .slice (some ⟨c2, p2, none⟩) kb db] := by subst hW; exact (Blk.new w _ _).alloc _
  have kA : Blk W (w.heap.size + 1) 73 #[.int .i64 0, .int .i64 0] := by
    subst hW
    have := Blk.new (w.alloc (.cells #[.int .i64 m, .int .i64 e, .slice (some ⟨b1, o1, none⟩) la ca, .slice (some ⟨b2, o2, none⟩) lb cb, .int .i64 q, .int .i64 f, .slice (some ⟨c1, p1, none⟩) ka da, .slice (some ⟨c2, p2, none⟩) kb db] 70)) 73 #[.int .i64 0, .int .i64 0]
    rw [World.size_alloc] at this
    exact this
  have bW : Below w.heap.size w W := by subst hW; exact ((Below.refl _ _).alloc (Nat.le_refl _) _).alloc (by simp) _
  have x1 := kP.cell 1
  have x5 := kP.cell 5
  have c0 := kA.cell 0
  have c1' := kA.cell 1
  have f0 := kA.frozen 0
  have f1 := kA.frozen 1
  simp at x1 x5 c0 c1'
  go_enter Try.func179, Try.ntmps179
  go_upto_region 1 with (fail)
  go_wp2_with (fail)
  refine bodyPost_ret (v := .agg #[.int .i64 e, .int .i64 f]) ?_ rfl ⟨rfl, ?_⟩
  · have F := (kA.set_ 0 (.int .i64 (e : Int))).set_ 1 (.int .i64 (f : Int))
    exact results_cell_row Try.results179 _ _ (w.heap.size + 1) 73 _ (0, 0) _ rfl F Try.underlying73 rfl (by kernel_rfl)
  · exact (bW.setCell (by simp) _).setCell (by simp) _

set_option maxHeartbeats 1000000 in
theorem paSum_any (m e b1 o1 la ca b2 o2 lb cb : Nat) (S P : Nat → Nat) (q f c1 p1 ka da c2 p2 kb db : Nat) (T U : Nat → Nat) (a1 a2 z1 z2 : Nat) (w : World) (hr : RingAt w m e b1 o1 la ca b2 o2 lb cb S P) (hs : RingAt w q f c1 p1 ka da c2 p2 kb db T U) (h1 : a1 < m) (h2 : z1 < m) (h3 : a2 < q) (h4 : z2 < q) :
    Calls Try.prog 181 #[.agg #[.int .i64 m, .int .i64 e, .slice (some ⟨b1, o1, none⟩) la ca, .slice (some ⟨b2, o2, none⟩) lb cb, .int .i64 q, .int .i64 f, .slice (some ⟨c1, p1, none⟩) ka da, .slice (some ⟨c2, p2, none⟩) kb db], .agg #[.int .i64 a1, .int .i64 a2], .agg #[.int .i64 z1, .int .i64 z2]] w fun e' w' => e' = .returned (.agg #[.int .i64 (S (a1 * m + z1) : Nat), .int .i64 (T (a2 * q + z2) : Nat)]) ∧ Below w.heap.size w w' := by
  obtain ⟨W, hW⟩ : ∃ W, (((w.alloc (.cells #[.int .i64 m, .int .i64 e, .slice (some ⟨b1, o1, none⟩) la ca, .slice (some ⟨b2, o2, none⟩) lb cb, .int .i64 q, .int .i64 f, .slice (some ⟨c1, p1, none⟩) ka da, .slice (some ⟨c2, p2, none⟩) kb db] 70)).alloc (.cells #[.int .i64 a1, .int .i64 a2] 73)).alloc (.cells #[.int .i64 z1, .int .i64 z2] 73)).alloc (.cells #[.int .i64 0, .int .i64 0] 73) = W := ⟨_, rfl⟩
  have kP : Blk W w.heap.size 70 #[.int .i64 m, .int .i64 e, .slice (some ⟨b1, o1, none⟩) la ca, .slice (some ⟨b2, o2, none⟩) lb cb, .int .i64 q, .int .i64 f, .slice (some ⟨c1, p1, none⟩) ka da, .slice (some ⟨c2, p2, none⟩) kb db] := by subst hW; exact (((Blk.new w _ _).alloc _).alloc _).alloc _
  have kA : Blk W (w.heap.size + 1) 73 #[.int .i64 a1, .int .i64 a2] := by
    subst hW
    have := ((Blk.new (w.alloc (.cells #[.int .i64 m, .int .i64 e, .slice (some ⟨b1, o1, none⟩) la ca, .slice (some ⟨b2, o2, none⟩) lb cb, .int .i64 q, .int .i64 f, .slice (some ⟨c1, p1, none⟩) ka da, .slice (some ⟨c2, p2, none⟩) kb db] 70)) 73 #[.int .i64 a1, .int .i64 a2]).alloc (.cells #[.int .i64 z1, .int .i64 z2] 73)).alloc (.cells #[.int .i64 0, .int .i64 0] 73)
    rw [World.size_alloc] at this
    exact this
  have kB : Blk W (w.heap.size + 1 + 1) 73 #[.int .i64 z1, .int .i64 z2] := by
    subst hW
    have := (Blk.new ((w.alloc (.cells #[.int .i64 m, .int .i64 e, .slice (some ⟨b1, o1, none⟩) la ca, .slice (some ⟨b2, o2, none⟩) lb cb, .int .i64 q, .int .i64 f, .slice (some ⟨c1, p1, none⟩) ka da, .slice (some ⟨c2, p2, none⟩) kb db] 70)).alloc (.cells #[.int .i64 a1, .int .i64 a2] 73)) 73 #[.int .i64 z1, .int .i64 z2]).alloc (.cells #[.int .i64 0, .int .i64 0] 73)
    rw [World.size_alloc, World.size_alloc] at this
    exact this
  have kC : Blk W (w.heap.size + 1 + 1 + 1) 73 #[.int .i64 0, .int .i64 0] := by
    subst hW
    have := Blk.new (((w.alloc (.cells #[.int .i64 m, .int .i64 e, .slice (some ⟨b1, o1, none⟩) la ca, .slice (some ⟨b2, o2, none⟩) lb cb, .int .i64 q, .int .i64 f, .slice (some ⟨c1, p1, none⟩) ka da, .slice (some ⟨c2, p2, none⟩) kb db] 70)).alloc (.cells #[.int .i64 a1, .int .i64 a2] 73)).alloc (.cells #[.int .i64 z1, .int .i64 z2] 73)) 73 #[.int .i64 0, .int .i64 0]
    rw [World.size_alloc, World.size_alloc, World.size_alloc] at this
    exact this
  have bW : Below w.heap.size w W := by subst hW; exact ((((Below.refl _ _).alloc (Nat.le_refl _) _).alloc (by simp) _).alloc (by simp; omega) _).alloc (by simp; omega) _
  have HR := Lib.hid (hr.next bW)
  have HS := Lib.hid (hs.next bW)
  have HW := Lib.hid hW
  clear hr hs hW
  go_enter Try.func181, Try.ntmps181
  go_upto_region 1 with (fail)
  rw [HW.out]
  refine wp_region_makers 15 (fun _ => false) (fun _ _ _ => True) (fun _ _ => True) (fun _ => undef) probe (by kernel_rfl) (by kernel_rfl) (fun _ _ _ _ _ _ => trivial) (fun _ _ _ _ _ => trivial) (fun _ _ => trivial) ?_
  intro V hV vs _
  have cW : ∃ x, extC V x := ⟨V, extC_of (Below.refl _ _)⟩
  have RV := Lib.hid (HR.out.next hV)
  have SV := Lib.hid (HS.out.next hV)
  have x0 := (kP.below hV kP.lt).cell 0
  have x1 := (kP.below hV kP.lt).cell 1
  have x2 := (kP.below hV kP.lt).cell 2
  have x3 := (kP.below hV kP.lt).cell 3
  have x4 := (kP.below hV kP.lt).cell 4
  have x5 := (kP.below hV kP.lt).cell 5
  have x6 := (kP.below hV kP.lt).cell 6
  have x7 := (kP.below hV kP.lt).cell 7
  have y0 := (kA.below hV kA.lt).cell 0
  have y1 := (kA.below hV kA.lt).cell 1
  have z0' := (kB.below hV kB.lt).cell 0
  have z1' := (kB.below hV kB.lt).cell 1
  simp at x0 x1 x2 x3 x4 x5 x6 x7 y0 y1 z0' z1'
  simp only [List.take_succ_cons, List.take_zero, List.drop_succ_cons, List.drop_zero]
  refine wpV_quiet cW 15 0 _ _ (by decide) (by decide) ?_
  simp only [List.take_succ_cons, List.take_zero, List.drop_succ_cons, List.drop_zero]
  repeat (go_big_quiet_step (first
      | (go_at_call 121; with_reducible refine calls_ext (sum_any a1 z1 m e b1 o1 la ca b2 o2 lb cb S P _ (RV.out.next (ext_below _ _)) h1 h2))
      | (go_at_call 121; with_reducible refine calls_ext (sum_any a2 z2 q f c1 p1 ka da c2 p2 kb db T U _ (SV.out.next (ext_below _ _)) h3 h4))))
  refine wpQuiet_nil ?_
  refine wpV_nil ?_
  intro w2 hb2 _ _
  have kC2 := kC.below hb2 kC.lt
  have c0 := kC2.cell 0
  have c1' := kC2.cell 1
  have f0 := kC2.frozen 0
  have f1 := kC2.frozen 1
  simp at c0 c1'
  go_wp2_with (fail)
  refine bodyPost_ret (v := .agg #[.int .i64 (S (a1 * m + z1) : Nat), .int .i64 (T (a2 * q + z2) : Nat)]) ?_ rfl ⟨rfl, ?_⟩
  · have F := (kC2.set_ 0 (.int .i64 (S (a1 * m + z1) : Nat))).set_ 1 (.int .i64 (T (a2 * q + z2) : Nat))
    exact results_cell_row Try.results181 _ _ (w.heap.size + 1 + 1 + 1) 73 _ (0, 0) _ rfl F Try.underlying73 rfl (by kernel_rfl)
  · exact ((bW.trans (hb2.mono bW.size)).setCell (by simp; omega) _).setCell (by simp; omega) _

set_option maxHeartbeats 1000000 in
theorem paProduct_any (m e b1 o1 la ca b2 o2 lb cb : Nat) (S P : Nat → Nat) (q f c1 p1 ka da c2 p2 kb db : Nat) (T U : Nat → Nat) (a1 a2 z1 z2 : Nat) (w : World) (hr : RingAt w m e b1 o1 la ca b2 o2 lb cb S P) (hs : RingAt w q f c1 p1 ka da c2 p2 kb db T U) (h1 : a1 < m) (h2 : z1 < m) (h3 : a2 < q) (h4 : z2 < q) :
    Calls Try.prog 180 #[.agg #[.int .i64 m, .int .i64 e, .slice (some ⟨b1, o1, none⟩) la ca, .slice (some ⟨b2, o2, none⟩) lb cb, .int .i64 q, .int .i64 f, .slice (some ⟨c1, p1, none⟩) ka da, .slice (some ⟨c2, p2, none⟩) kb db], .agg #[.int .i64 a1, .int .i64 a2], .agg #[.int .i64 z1, .int .i64 z2]] w fun e' w' => e' = .returned (.agg #[.int .i64 (P (a1 * m + z1) : Nat), .int .i64 (U (a2 * q + z2) : Nat)]) ∧ Below w.heap.size w w' := by
  obtain ⟨W, hW⟩ : ∃ W, (((w.alloc (.cells #[.int .i64 m, .int .i64 e, .slice (some ⟨b1, o1, none⟩) la ca, .slice (some ⟨b2, o2, none⟩) lb cb, .int .i64 q, .int .i64 f, .slice (some ⟨c1, p1, none⟩) ka da, .slice (some ⟨c2, p2, none⟩) kb db] 70)).alloc (.cells #[.int .i64 a1, .int .i64 a2] 73)).alloc (.cells #[.int .i64 z1, .int .i64 z2] 73)).alloc (.cells #[.int .i64 0, .int .i64 0] 73) = W := ⟨_, rfl⟩
  have kP : Blk W w.heap.size 70 #[.int .i64 m, .int .i64 e, .slice (some ⟨b1, o1, none⟩) la ca, .slice (some ⟨b2, o2, none⟩) lb cb, .int .i64 q, .int .i64 f, .slice (some ⟨c1, p1, none⟩) ka da, .slice (some ⟨c2, p2, none⟩) kb db] := by subst hW; exact (((Blk.new w _ _).alloc _).alloc _).alloc _
  have kA : Blk W (w.heap.size + 1) 73 #[.int .i64 a1, .int .i64 a2] := by
    subst hW
    have := ((Blk.new (w.alloc (.cells #[.int .i64 m, .int .i64 e, .slice (some ⟨b1, o1, none⟩) la ca, .slice (some ⟨b2, o2, none⟩) lb cb, .int .i64 q, .int .i64 f, .slice (some ⟨c1, p1, none⟩) ka da, .slice (some ⟨c2, p2, none⟩) kb db] 70)) 73 #[.int .i64 a1, .int .i64 a2]).alloc (.cells #[.int .i64 z1, .int .i64 z2] 73)).alloc (.cells #[.int .i64 0, .int .i64 0] 73)
    rw [World.size_alloc] at this
    exact this
  have kB : Blk W (w.heap.size + 1 + 1) 73 #[.int .i64 z1, .int .i64 z2] := by
    subst hW
    have := (Blk.new ((w.alloc (.cells #[.int .i64 m, .int .i64 e, .slice (some ⟨b1, o1, none⟩) la ca, .slice (some ⟨b2, o2, none⟩) lb cb, .int .i64 q, .int .i64 f, .slice (some ⟨c1, p1, none⟩) ka da, .slice (some ⟨c2, p2, none⟩) kb db] 70)).alloc (.cells #[.int .i64 a1, .int .i64 a2] 73)) 73 #[.int .i64 z1, .int .i64 z2]).alloc (.cells #[.int .i64 0, .int .i64 0] 73)
    rw [World.size_alloc, World.size_alloc] at this
    exact this
  have kC : Blk W (w.heap.size + 1 + 1 + 1) 73 #[.int .i64 0, .int .i64 0] := by
    subst hW
    have := Blk.new (((w.alloc (.cells #[.int .i64 m, .int .i64 e, .slice (some ⟨b1, o1, none⟩) la ca, .slice (some ⟨b2, o2, none⟩) lb cb, .int .i64 q, .int .i64 f, .slice (some ⟨c1, p1, none⟩) ka da, .slice (some ⟨c2, p2, none⟩) kb db] 70)).alloc (.cells #[.int .i64 a1, .int .i64 a2] 73)).alloc (.cells #[.int .i64 z1, .int .i64 z2] 73)) 73 #[.int .i64 0, .int .i64 0]
    rw [World.size_alloc, World.size_alloc, World.size_alloc] at this
    exact this
  have bW : Below w.heap.size w W := by subst hW; exact ((((Below.refl _ _).alloc (Nat.le_refl _) _).alloc (by simp) _).alloc (by simp; omega) _).alloc (by simp; omega) _
  have HR := Lib.hid (hr.next bW)
  have HS := Lib.hid (hs.next bW)
  have HW := Lib.hid hW
  clear hr hs hW
  go_enter Try.func180, Try.ntmps180
  go_upto_region 1 with (fail)
  rw [HW.out]
  refine wp_region_makers 15 (fun _ => false) (fun _ _ _ => True) (fun _ _ => True) (fun _ => undef) probe (by kernel_rfl) (by kernel_rfl) (fun _ _ _ _ _ _ => trivial) (fun _ _ _ _ _ => trivial) (fun _ _ => trivial) ?_
  intro V hV vs _
  have cW : ∃ x, extC V x := ⟨V, extC_of (Below.refl _ _)⟩
  have RV := Lib.hid (HR.out.next hV)
  have SV := Lib.hid (HS.out.next hV)
  have x0 := (kP.below hV kP.lt).cell 0
  have x1 := (kP.below hV kP.lt).cell 1
  have x2 := (kP.below hV kP.lt).cell 2
  have x3 := (kP.below hV kP.lt).cell 3
  have x4 := (kP.below hV kP.lt).cell 4
  have x5 := (kP.below hV kP.lt).cell 5
  have x6 := (kP.below hV kP.lt).cell 6
  have x7 := (kP.below hV kP.lt).cell 7
  have y0 := (kA.below hV kA.lt).cell 0
  have y1 := (kA.below hV kA.lt).cell 1
  have z0' := (kB.below hV kB.lt).cell 0
  have z1' := (kB.below hV kB.lt).cell 1
  simp at x0 x1 x2 x3 x4 x5 x6 x7 y0 y1 z0' z1'
  simp only [List.take_succ_cons, List.take_zero, List.drop_succ_cons, List.drop_zero]
  refine wpV_quiet cW 15 0 _ _ (by decide) (by decide) ?_
  simp only [List.take_succ_cons, List.take_zero, List.drop_succ_cons, List.drop_zero]
  repeat (go_big_quiet_step (first
      | (go_at_call 122; with_reducible refine calls_ext (product_any a1 z1 m e b1 o1 la ca b2 o2 lb cb S P _ (RV.out.next (ext_below _ _)) h1 h2))
      | (go_at_call 122; with_reducible refine calls_ext (product_any a2 z2 q f c1 p1 ka da c2 p2 kb db T U _ (SV.out.next (ext_below _ _)) h3 h4))))
  refine wpQuiet_nil ?_
  refine wpV_nil ?_
  intro w2 hb2 _ _
  have kC2 := kC.below hb2 kC.lt
  have c0 := kC2.cell 0
  have c1' := kC2.cell 1
  have f0 := kC2.frozen 0
  have f1 := kC2.frozen 1
  simp at c0 c1'
  go_wp2_with (fail)
  refine bodyPost_ret (v := .agg #[.int .i64 (P (a1 * m + z1) : Nat), .int .i64 (U (a2 * q + z2) : Nat)]) ?_ rfl ⟨rfl, ?_⟩
  · have F := (kC2.set_ 0 (.int .i64 (P (a1 * m + z1) : Nat))).set_ 1 (.int .i64 (U (a2 * q + z2) : Nat))
    exact results_cell_row Try.results180 _ _ (w.heap.size + 1 + 1 + 1) 73 _ (0, 0) _ rfl F Try.underlying73 rfl (by kernel_rfl)
  · exact ((bW.trans (hb2.mono bW.size)).setCell (by simp; omega) _).setCell (by simp; omega) _

theorem el_lt {m q a : Nat} (hq : 1 ≤ q) (ha : a < m * q) : a / q < m ∧ a % q < q := prod_parts hq ha
theorem making_pa (m e b1 o1 la ca b2 o2 lb cb : Nat) (S P : Nat → Nat) (q f c1 p1 ka da c2 p2 kb db : Nat) (T U : Nat → Nat) (w : World) (hr : RingAt w m e b1 o1 la ca b2 o2 lb cb S P) (hs : RingAt w q f c1 p1 ka da c2 p2 kb db T U) (hmq : m * q ≤ 16) :
    Making w (.agg #[.int .i64 m, .int .i64 e, .slice (some ⟨b1, o1, none⟩) la ca, .slice (some ⟨b2, o2, none⟩) lb cb, .int .i64 q, .int .i64 f, .slice (some ⟨c1, p1, none⟩) ka da, .slice (some ⟨c2, p2, none⟩) kb db]) 89 179 90 92 181 180 (m * q) (e * q + f)
      (fun a => .agg #[.int .i64 (a / q : Nat), .int .i64 (a % q : Nat)]) (fun a b => .agg #[.int .i64 (S (a / q * m + b / q) : Nat), .int .i64 (T (a % q * q + b % q) : Nat)]) (fun a b => .agg #[.int .i64 (P (a / q * m + b / q) : Nat), .int .i64 (U (a % q * q + b % q) : Nat)])
      (prodF m q S T) (prodF m q P U) (.agg #[.int .i64 e, .int .i64 f]) := by
  have hm := hr.hm
  have hm' := hr.hm'
  have hq := hs.hm
  have hq' := hs.hm'
  have he := hr.he
  have hf := hs.he
  refine ⟨fun x _ => ?_, fun x _ => paOne_any m e b1 o1 la ca b2 o2 lb cb q f c1 p1 ka da c2 p2 kb db x, fun x _ => ?_, fun x _ a ha => ?_, fun x hx a b ha hb => ?_, fun x hx a b ha hb => ?_, fun x _ a b ha hb => ?_, fun x _ a b ha hb => ?_⟩
  · refine (paSize_any m e _ _ la ca lb cb q f _ _ ka da kb db x (by omega) (by omega) (by omega) (by omega)).mono fun e' w' ⟨h1, h2⟩ => ⟨by rw [h1]; simp, h2⟩
  · refine (paNumber_any m e _ _ la ca lb cb q f _ _ ka da kb db e f x (by omega) (by omega) (by omega) (by omega) (by omega) (by omega)).mono fun e' w' ⟨h1, h2⟩ => ⟨by rw [h1]; simp, h2⟩
  · refine (paElement_any m e _ _ la ca lb cb q f _ _ ka da kb db a x (by omega) (by omega) (by omega)).mono fun e' w' ⟨h1, h2⟩ => ⟨by rw [h1]; simp, h2⟩
  · obtain ⟨g1, g2⟩ := el_lt hq ha
    obtain ⟨g3, g4⟩ := el_lt hq hb
    exact paSum_any m e b1 o1 la ca b2 o2 lb cb S P q f c1 p1 ka da c2 p2 kb db T U (a / q) (a % q) (b / q) (b % q) x (hr.next hx) (hs.next hx) g1 g3 g2 g4
  · obtain ⟨g1, g2⟩ := el_lt hq ha
    obtain ⟨g3, g4⟩ := el_lt hq hb
    exact paProduct_any m e b1 o1 la ca b2 o2 lb cb S P q f c1 p1 ka da c2 p2 kb db T U (a / q) (a % q) (b / q) (b % q) x (hr.next hx) (hs.next hx) g1 g3 g2 g4
  · obtain ⟨g1, g2⟩ := el_lt hq ha
    obtain ⟨g3, g4⟩ := el_lt hq hb
    have l1 := hr.ts.lt g1 g3
    have l2 := hs.ts.lt g2 g4
    refine (paNumber_any m e _ _ la ca lb cb q f _ _ ka da kb db _ _ x (by omega) (by omega) (by omega) (by omega) (by omega) (by omega)).mono fun e' w' ⟨h1, h2⟩ => ⟨by rw [h1]; simp [prodF], h2⟩
  · obtain ⟨g1, g2⟩ := el_lt hq ha
    obtain ⟨g3, g4⟩ := el_lt hq hb
    have l1 := hr.tp.lt g1 g3
    have l2 := hs.tp.lt g2 g4
    refine (paNumber_any m e _ _ la ca lb cb q f _ _ ka da kb db _ _ x (by omega) (by omega) (by omega) (by omega) (by omega) (by omega)).mono fun e' w' ⟨h1, h2⟩ => ⟨by rw [h1]; simp [prodF], h2⟩

end Go.Proofs.Ytplligjoegjngaa
