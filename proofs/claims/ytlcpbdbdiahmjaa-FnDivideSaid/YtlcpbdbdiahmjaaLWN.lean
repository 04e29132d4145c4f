
import Derived.Test.YtlcpbdbdiahmjaaLWM
/- The drawing side: a ring, a polynomial and a divisor, the divisor's last coefficient sometimes the ring's One. -/
namespace Go.Proofs.Ytlcpbdbdiahmjaa
open Go.RowKit
set_option maxRecDepth 100000

/-- What the statement that sets the divisor's last coefficient draws. -/
structure DvPhi (D : Nat) (L : List Int) (o : Int) (i : Nat) (v : Value) (w : World) : Prop where
  p0 : i = 0 → ∃ b, v = .slice (some ⟨b, 0, none⟩) 0 0 ∧ w.ownsRow D 3 1 v 0 (intsV [])
  p6 : i = 6 → ∃ b c, v = .slice (some ⟨b, 0, none⟩) L.length c ∧ w.ownsRow D 3 1 v L.length (intsV L)
  p9 : i = 9 → ∃ b, v = .slice (some ⟨b, 0, none⟩) 1 1 ∧ D ≤ b ∧ Blk w b 3 #[.int .i64 o]
structure DvSh (l : Nat) (i : Nat) (v : Value) : Prop where
  p0 : i = 0 → ∃ b, v = .slice (some ⟨b, 0, none⟩) 0 0
  p6 : i = 6 → ∃ b c, v = .slice (some ⟨b, 0, none⟩) l c
  p9 : i = 9 → ∃ b, v = .slice (some ⟨b, 0, none⟩) 1 1
theorem DvPhi_stable {D : Nat} {L : List Int} {o : Int} (i : Nat) (v : Value) (w w' : World) (h : DvPhi D L o i v w) (hb : Below w.heap.size w w') : DvPhi D L o i v w' :=
  ⟨fun e => by obtain ⟨b, h1, h2⟩ := h.p0 e; exact ⟨b, h1, own_next h2 hb⟩, fun e => by obtain ⟨b, c, h1, h2⟩ := h.p6 e; exact ⟨b, c, h1, own_next h2 hb⟩, fun e => by obtain ⟨b, h1, h2, h3⟩ := h.p9 e; exact ⟨b, h1, h2, h3.next hb⟩⟩
theorem DvSh_of {D : Nat} {L : List Int} {o : Int} (i : Nat) (v : Value) (w : World) (h : DvPhi D L o i v w) : DvSh L.length i v :=
  ⟨fun e => by obtain ⟨b, h1, _⟩ := h.p0 e; exact ⟨b, h1⟩, fun e => by obtain ⟨b, c, h1, _⟩ := h.p6 e; exact ⟨b, c, h1⟩, fun e => by obtain ⟨b, h1, _⟩ := h.p9 e; exact ⟨b, h1⟩⟩
def dvMk (i : Nat) : Bool := i == 0 || i == 6 || i == 9
def dv0 (l : Nat) (i : Nat) : Value := if i = 0 then .slice (some ⟨0, 0, none⟩) 0 0 else if i = 6 then .slice (some ⟨0, 0, none⟩) l 0 else .slice (some ⟨0, 0, none⟩) 1 1
theorem DvSh_zero (l i : Nat) : DvSh l i (dv0 l i) := ⟨fun e => by subst e; exact ⟨0, rfl⟩, fun e => by subst e; exact ⟨0, 0, rfl⟩, fun e => by subst e; exact ⟨0, rfl⟩⟩

theorem makesE_empty {o : Oper} {a : Act} (hop : o.op = .buildSlice 23 0 #[]) (w : World) {F : Value → World → Prop}
    (hF : ∀ w', w'.ownsRow w.heap.size 3 1 (.slice (some ⟨w.heap.size, 0, none⟩) 0 0) 0 (intsV []) → F (.slice (some ⟨w.heap.size, 0, none⟩) 0 0) w') : makesAtE Try.prog o a w F := by
  unfold makesAtE
  simp only [execOp, hop]
  go_simp
  exact ⟨(Below.refl _ _).alloc (Nat.le_refl _) _, hF _ (own_literal (w := w) (base := w.heap.size) (e := 3) [] (Nat.le_refl _) (by unfold maxLen; simp)), fun b hb => by cases hb⟩
theorem makesE_one {o : Oper} {a : Act} (x : Operand) (n : Int) (hop : o.op = .buildSlice 23 1 #[(0, x)]) (hx : a.eval x = .int .i64 n) (w : World) {F : Value → World → Prop}
    (hF : ∀ w', Blk w' w.heap.size 3 #[.int .i64 n] → F (.slice (some ⟨w.heap.size, 0, none⟩) 1 1) w') : makesAtE Try.prog o a w F := by
  unfold makesAtE
  generalize a.eval = ev at hx ⊢
  simp only [execOp, hop]
  go_simp
  exact ⟨(Below.refl _ _).alloc (Nat.le_refl _) _, hF _ (Blk.new w _ _), fun b hb => by cases hb⟩
theorem makesAtE_mono3 {P : Program} {o : Oper} {a : Act} {w : World} {F F' : Value → World → Prop} (h : makesAtE P o a w F) (hF : ∀ v w', F v w' → F' v w') : makesAtE P o a w F' := by
  unfold makesAtE at *
  generalize (execOp a.eval o).run P w = r at *
  cases r with
  | ok n w' =>
    cases n <;> simp only [makesUponE] at h ⊢
    case value u => exact ⟨h.1, hF _ _ h.2.1, h.2.2⟩
    case enter f args => exact ⟨h.1, h.2.mono fun e w'' ⟨u, h1, h2, h3, h4⟩ => ⟨u, h1, h2, hF _ _ h3, h4⟩⟩
  | halt x w' => simp only [makesUponE] at h
/-- A copy of a row of ints, behind an empty one. -/
theorem makesE_copy {o : Oper} {a : Act} (s x : Operand) (hop : o.op = .call { callee := .builtin .append, args := #[s, x], argTypes := #[23, 23] }) (D b n c : Nat) (A : Option Addr) (X : List Int) (w : World)
    (hs : a.eval s = .slice (some ⟨b, 0, none⟩) 0 0) (hx : a.eval x = .slice A n c) (hX : Ints w w.heap.size A n X) (hn' : n ≤ 1000000) (hD : D ≤ w.heap.size) (hO : w.ownsRow D 3 1 (.slice (some ⟨b, 0, none⟩) 0 0) 0 (intsV [])) :
    makesAtE Try.prog o a w fun v w' => ∃ g cap, v = .slice (some ⟨g, 0, none⟩) n cap ∧ w'.ownsRow D 3 1 v n (intsV X) := by
  obtain ⟨i0, hi, hz0, hz1, hz2⟩ := info_parts int_info
  by_cases hn : 1 ≤ n
  · obtain ⟨ab, off, rfl, hab, hc⟩ := hX.2 (by omega)
    obtain ⟨v', w', hr, ho, hg⟩ := run_append_arg_grows (P := Try.prog) w 23 o.type 3 i0 (.int .i64 0) 1 8 Try.underlying23 hi hz0 hz1 hz2 rfl (by omega) ⟨b, 0, none⟩ 0 0 [] rfl (by simp) ⟨ab, off, none⟩ n c (intsV X)
      (by simp [intsV, hX.1]) (fun j u hu => by
        unfold intsV at hu
        rw [List.getElem?_map] at hu
        cases hj : X[j]? with
        | none => rw [hj] at hu; cases hu
        | some y =>
          rw [hj] at hu
          have := hc j y hj
          simp only [Option.map_some, Option.some.injEq] at hu
          rw [← hu]
          have e : (⟨ab, off, none⟩ : Addr).add j = ⟨ab, off + j, none⟩ := by simp [Addr.add]
          rw [e]
          exact this) (by omega) (by unfold maxLen; omega) (by omega)
    rw [Nat.zero_add] at ho
    rw [List.nil_append] at ho
    obtain ⟨g, cap, rfl, h1, h2⟩ := ho.form (by omega)
    unfold makesAtE execOp
    simp only [hop, resolve, invoke, builtin, Sem.run_bind, Sem.run_pure, Result.andThen_ok, List.map_toArray, List.map_cons, List.map_nil, hs, hx, hr, makesUponE]
    exact ⟨⟨hg.os, hg.tape, hg.output, hg.size, fun k hk => hg.block k hk (by simp)⟩, ⟨g, cap, rfl, own_base ho hD⟩, fun bb hbb => by cases hbb⟩
  · obtain rfl : n = 0 := by omega
    obtain rfl : X = [] := List.eq_nil_of_length_eq_zero hX.1
    have hr : (Builtin.append_ #[23, 23] o.type #[.slice (some ⟨b, 0, none⟩) 0 0, .slice A 0 c]).run Try.prog w = .ok (.slice (some ⟨b, 0, none⟩) 0 0) w := by
      cases A <;> simp [Builtin.append_, run_underlying Try.underlying23, sizeOf, typeInfo, hi, Builtin.lenOf, Builtin.firstCells, storeCells, loadCells, loadCellsFrom]
    unfold makesAtE execOp
    simp only [hop, resolve, invoke, builtin, Sem.run_bind, Sem.run_pure, Result.andThen_ok, List.map_toArray, List.map_cons, List.map_nil, hs, hx, hr, makesUponE]
    exact ⟨Below.refl _ _, ⟨b, 0, rfl, hO⟩, fun bb hbb => by cases hbb⟩

set_option maxHeartbeats 8000000 in
theorem drawDividePoly_any (A : Option Addr) (n c : Nat) (w : World) (hb : Byts w w.heap.size A n) (hn : n ≤ 1048576) (hc : n ≤ c) (hc2 : c ≤ 9223372036854775807) :
    Calls Try.prog 12 #[.slice A n c] w fun e w' => ∃ v v1 v2 : Value, e = .returned (.tuple #[v, v1, v2]) ∧ AnyR w.heap.size w' v ∧ Dq w.heap.size w' v1 ∧ Dq w.heap.size w' v2 ∧ Below w.heap.size w w' := by
  obtain ⟨i0, hi, hz0, hz1, hz2⟩ := info_parts int_info
  obtain ⟨W, hW⟩ : ∃ W, w.alloc (.cells #[.int .i64 0, .int .i64 0, .slice none 0 0, .slice none 0 0] 25) = W := ⟨_, rfl⟩
  have hs : W.heap.size = w.heap.size + 1 := by subst hW; simp
  have bW : Below w.heap.size w W := by subst hW; exact (Below.refl _ _).alloc (Nat.le_refl _) _
  have K0 := Lib.hid (show Blk W w.heap.size 25 #[.int .i64 0, .int .i64 0, .slice none 0 0, .slice none 0 0] by subst hW; exact Blk.new w _ _)
  have HB := Lib.hid (hb.grow bW)
  have B0 := Lib.hid bW
  clear bW
  go_enter Try.func12, Try.ntmps12
  go_upto_region 1 with (fail)
  clear hW
  go_wp2_with (fail)
  refine (l13Open_any A n c W HB.out (by omega) hc hc2).mono ?_
  rintro e w1 ⟨rfl, hb1, hr1, hlt1⟩
  obtain ⟨g, hg⟩ : ∃ g, W.heap.size = g := ⟨_, rfl⟩
  rw [hg] at hr1 hlt1 ⊢
  have hgw : w.heap.size < g := by omega
  have K1 := Lib.hid (K0.out.below hb1 (by omega))
  have B1 := Lib.hid (B0.out.trans (hb1.mono (by omega)))
  have R1 := Lib.hid hr1
  clear hb1 hr1 hg hs
  go_wp2_with (fail)
  refine (l9Two_any g 0 w1 R1.out (by omega)).mono ?_
  rintro e w2 ⟨v, v1, v2, rfl, hA, ha, hb, hw2, hr2⟩
  have F2 := hA
  obtain ⟨n2, o2, A2, B2, q2, ca2, cb2, X2, Y2, rfl, _, _, _⟩ := hA.data
  obtain ⟨Aa, na, ca, rfl⟩ := ha.shape
  obtain ⟨L, hL, hL17⟩ := hb
  obtain ⟨Ab, nb, cb, rfl, hO, hcb, hnb⟩ := id hL
  have lD : g < w1.heap.size := R1.out.lt
  have s2 := hw2.size
  have K2 := Lib.hid (K1.out.wk hw2 (by omega))
  have X2 := Lib.hid (B1.out.trans (hw2.below (B := w.heap.size) (Nat.le_of_lt hgw) B1.out.size))
  have S2 := Lib.hid (show w.heap.size < w1.heap.size from by omega)
  have bx : ∃ b, b = w2.heap.size := ⟨_, rfl⟩
  obtain ⟨bx, hbx⟩ := bx
  obtain ⟨V, hV⟩ : ∃ V, w2.alloc (.cells #[.int .i64 n2, .int .i64 o2, .slice A2 q2 ca2, .slice B2 q2 cb2] 25) = V := ⟨_, rfl⟩
  have bV : Below w2.heap.size w2 V := by subst hV; exact (Below.refl _ _).alloc (Nat.le_refl _) _
  have KB := Lib.hid (show Blk V bx 25 #[.int .i64 n2, .int .i64 o2, .slice A2 q2 ca2, .slice B2 q2 cb2] by subst hV hbx; exact Blk.new w2 _ _)
  have K3 := Lib.hid (K2.out.next bV)
  have X3 := Lib.hid (X2.out.trans (bV.mono (by omega)))
  have F3 := Lib.hid (F2.next bV)
  have HA3 := Lib.hid (ha.next bV)
  have HB3 := Lib.hid (hL.next bV)
  have R3 := Lib.hid (hr2.next bV)
  have nB : bx ≠ g := by omega
  have nK : w.heap.size ≠ g := by omega
  have SB := Lib.hid (show w.heap.size < bx by omega)
  have sV := bV.size
  clear F2 ha hL hO hw2 hr2 hA
  go_upto_region 3 with (fail)
  rw [← hbx]
  clear hV bV hbx
  go_wp2_with (fail)
  refine (pick_any g _ 2 V R3.out (by omega)).mono ?_
  rintro e w3 ⟨x, rfl, hx0, hx1, hw3, hr3⟩
  have K4 := Lib.hid (K3.out.wk hw3 nK)
  have KB4 := Lib.hid (KB.out.wk hw3 nB)
  have X4 := Lib.hid (X3.out.trans (hw3.below (B := w.heap.size) (Nat.le_of_lt hgw) X3.out.size))
  have F4 := Lib.hid (F3.out.wk hw3 lD)
  have HA4 := Lib.hid (HA3.out.wk hw3 lD)
  have HB4 := Lib.hid (show SliceOut w1.heap.size w3 (.slice Ab nb cb) L by
    obtain ⟨A', l', c', e', h1, h2⟩ := HB3.out
    exact ⟨A', l', c', e', h1.wkT (WkT.of (T := fun _ => none) hw3) lD (fun _ _ => rfl), h2⟩)
  have s3 := hw3.size
  clear hw3 hr3 hx1
  obtain ⟨d0, d1, d2, d3⟩ := blk4 K4.out
  have f0 := K4.out.frozen 0
  have f1 := K4.out.frozen 1
  have f2 := K4.out.frozen 2
  have f3 := K4.out.frozen 3
  obtain ⟨c0, c1, c2, c3⟩ := blk4 KB4.out
  by_cases hx : x = 0
  rotate_left
  · have t0 : (x == 0) = false := by simp [hx]
    go_wp2_with (fail)
    refine bodyPost_ret (v := .tuple #[.agg #[.int .i64 n2, .int .i64 o2, .slice A2 q2 ca2, .slice B2 q2 cb2], .slice Aa na ca, .slice Ab nb cb]) ?_ rfl ⟨_, _, _, rfl, (F4.out.store S2.out).lower (Nat.le_of_lt S2.out), (HA4.out.store S2.out).lower (Nat.le_of_lt S2.out), (Dq.store (⟨L, HB4.out, hL17⟩ : Dq _ _ _) S2.out).lower (Nat.le_of_lt S2.out), store4_below X4.out (Nat.le_refl _)⟩
    exact results_cell_two (fn := Try.f12) rfl _ _ w.heap.size 25 _ _ _ _ rfl rfl rfl (store4_blk K4.out) Try.underlying25 rfl (by kernel_rfl)
  subst hx
  have CI := l1In_any o2 1 15 w3
  cases hin : inC o2 1 15
  · rw [hin] at CI
    go_wp2_with (fail)
    refine CI.mono ?_
    rintro e w' ⟨rfl, rfl⟩
    go_wp2_with (fail)
    refine bodyPost_ret (v := .tuple #[.agg #[.int .i64 n2, .int .i64 o2, .slice A2 q2 ca2, .slice B2 q2 cb2], .slice Aa na ca, .slice Ab nb cb]) ?_ rfl ⟨_, _, _, rfl, (F4.out.store S2.out).lower (Nat.le_of_lt S2.out), (HA4.out.store S2.out).lower (Nat.le_of_lt S2.out), (Dq.store (⟨L, HB4.out, hL17⟩ : Dq _ _ _) S2.out).lower (Nat.le_of_lt S2.out), store4_below X4.out (Nat.le_refl _)⟩
    exact results_cell_two (fn := Try.f12) rfl _ _ w.heap.size 25 _ _ _ _ rfl rfl rfl (store4_blk K4.out) Try.underlying25 rfl (by kernel_rfl)
  rw [hin] at CI
  go_wp2_with (fail)
  refine CI.mono ?_
  rintro e w' ⟨rfl, rfl⟩
  cases nb with
  | zero =>
    go_wp2_with (fail)
    refine bodyPost_ret (v := .tuple #[.agg #[.int .i64 n2, .int .i64 o2, .slice A2 q2 ca2, .slice B2 q2 cb2], .slice Aa na ca, .slice Ab 0 cb]) ?_ rfl ⟨_, _, _, rfl, (F4.out.store S2.out).lower (Nat.le_of_lt S2.out), (HA4.out.store S2.out).lower (Nat.le_of_lt S2.out), (Dq.store (⟨L, HB4.out, hL17⟩ : Dq _ _ _) S2.out).lower (Nat.le_of_lt S2.out), store4_below X4.out (Nat.le_refl _)⟩
    exact results_cell_two (fn := Try.f12) rfl _ _ w.heap.size 25 _ _ _ _ rfl rfl rfl (store4_blk K4.out) Try.underlying25 rfl (by kernel_rfl)
  | succ k =>
    have t1 : ((0 : Int) < ((k + 1 : Nat) : Int)) := by omega
    have t2 : IntKind.i64.wrap (((k + 1 : Nat) : Int) - 1) = (k : Int) := by rw [show (((k + 1 : Nat) : Int) - 1) = (k : Int) by omega]; exact IntWalk.i64_in _ (by omega)
    go_wp2_with (fail)
    have hlen : L.length = k + 1 := by obtain ⟨A', l', c', e', h1, _⟩ := HB4.out; cases e'; exact h1.1
    have HI := HB4.out
    obtain ⟨A', l', c', e', h1, _⟩ := HI
    cases e'
    obtain ⟨b0, off, rfl, hb0, hc0⟩ := h1.ints.2 (by omega)
    have IT := Lib.hid (show Ints w3 w3.heap.size (some ⟨b0, off, none⟩) k (L.take k) from ⟨by rw [List.length_take]; omega, fun _ => ⟨b0, off, rfl, hb0, fun j x hj => by
      rcases Nat.lt_or_ge j k with h3 | h3
      · rw [List.getElem?_take_of_lt h3] at hj; exact hc0 j x hj
      · rw [List.getElem?_eq_none (by rw [List.length_take]; omega)] at hj; cases hj⟩⟩)
    clear h1 hb0 hc0
    have hk17 : k ≤ 16 := by omega
    refine wp_region_makersE 10 dvMk (DvPhi w3.heap.size (L.take k) o2) (DvSh k) (dv0 k) probe (by kernel_rfl) (by kernel_rfl) DvPhi_stable (fun i v x _ h => by have := DvSh_of i v x h; rwa [show (L.take k).length = k by rw [List.length_take]; omega] at this) (fun i _ => DvSh_zero k i) ?_
    intro U hU vs hvs
    obtain ⟨b6, e0⟩ := (hvs 0 rfl).p0 rfl
    obtain ⟨b7, c7, e6⟩ := (hvs 6 rfl).p6 rfl
    obtain ⟨b9, e9⟩ := (hvs 9 rfl).p9 rfl
    have cW : ∃ x, extC U x := ⟨U, extC_of (Below.refl _ _)⟩
    have kx : ∀ x, extC U x → Below w3.heap.size w3 x := fun x ⟨u, hu⟩ => by rw [hu]; exact hU.trans ((ext_below U u).mono hU.size)
    have x0 := (KB4.out.next hU).cell 0
    have x1 := (KB4.out.next hU).cell 1
    have x2 := (KB4.out.next hU).cell 2
    have x3 := (KB4.out.next hU).cell 3
    simp at x0 x1 x2 x3
    have t3 : (0 : Int) ≤ (k : Int) := by omega
    have t4 : (k : Int) ≤ (cb : Int) := by omega
    have t5 : k ≤ cb := by omega
    simp only [List.take_succ_cons, List.take_zero, List.drop_succ_cons, List.drop_zero]
    refine wpV_make_E rfl rfl (fun x hx _ => makesE_empty rfl x (fun x' h => ⟨fun _ => ⟨_, rfl, own_base h (kx x hx).size⟩, fun e => absurd e (by decide), fun e => absurd e (by decide)⟩)) ?_
    rw [e0]
    go_simp
    refine wpV_quietE cW 5 _ _ _ (by decide) (by decide) ?_
    simp only [List.take_succ_cons, List.take_zero, List.drop_succ_cons, List.drop_zero]
    repeat (go_big_quiet_step (fail))
    refine wpQuiet_nil ?_
    refine wpV_make_E rfl rfl (fun x hx hdep => ?_) ?_
    · obtain ⟨b', q', ho⟩ := (hdep ⟨0, .data⟩ (by simp) rfl rfl).p0 rfl
      rw [e0] at q' ho
      exact makesAtE_mono3 (makesE_copy _ _ rfl w3.heap.size b6 k cb _ (L.take k) x rfl rfl (IT.out.next (kx x hx)) (by omega) (kx x hx).size ho) fun v x' h => ⟨fun e => absurd e (by decide), fun _ => by rw [show (L.take k).length = k by rw [List.length_take]; omega]; exact h, fun e => absurd e (by decide)⟩
    rw [e6]
    go_simp
    refine wpV_quietE cW 2 _ _ _ (by decide) (by decide) ?_
    simp only [List.take_succ_cons, List.take_zero, List.drop_succ_cons, List.drop_zero]
    repeat (go_big_quiet_step (fail))
    refine wpQuiet_nil ?_
    refine wpV_make_E rfl rfl (fun x hx _ => makesE_one _ _ rfl rfl x (fun x' h => ⟨fun e => absurd e (by decide), fun e => absurd e (by decide), fun _ => ⟨_, rfl, (kx x hx).size, h⟩⟩)) ?_
    rw [e9]
    go_simp
    refine wpV_nilE ?_
    intro w5 hb5 hf _
    obtain ⟨g6, k6, q6, o6⟩ := (hf 6 (by decide) rfl).p6 rfl
    obtain ⟨g9, q9, _, r9⟩ := (hf 9 (by decide) rfl).p9 rfl
    rw [e6] at q6 o6
    rw [e9] at q9
    simp only [Value.slice.injEq, Option.some.injEq, Addr.mk.injEq, and_true] at q9
    subst q9
    rw [show (L.take k).length = k by rw [List.length_take]; omega] at o6
    clear hf x0 x1 x2 x3 q6
    refine wpList_append_lies _ rfl _ _ _ rfl w3.heap.size 3 i0 _ 1 8 Try.underlying23 hi hz0 hz1 hz2 rfl (by omega) (.slice (some ⟨b7, 0, none⟩) k c7) k _ rfl o6 ⟨b9, 0, none⟩ 1 1 _ rfl rfl (World.news_of_block r9) (by simp [Value.oneCell']) (by omega) (by unfold maxLen; omega) (by omega) hb5.size _ rfl ?_
    intro gg cap w6 hown hgrow _ _
    have B6 := hb5.grown hgrow hb5.size (fun k hk => (o6.lt k hk).1)
    have HN := Lib.hid (show Dq w3.heap.size w6 (.slice (some ⟨gg, 0, none⟩) (k + 1) cap) from ⟨L.take k ++ [o2], SliceOut.of_row (by unfold intsV at hown; simpa using hown) (by simp; omega) (by omega), by simp; omega⟩)
    have K5 := Lib.hid (K4.out.next B6)
    have KB5 := Lib.hid (KB4.out.next B6)
    have F5 := Lib.hid (F4.out.next B6)
    have HA5 := Lib.hid (HA4.out.next B6)
    have L3 := Lib.hid (K4.out.lt)
    have X5 := Lib.hid (X4.out.trans (B6.mono X4.out.size))
    clear B6 hown hgrow hb5 o6 r9 e0 e6 e9 hvs cW kx hU c0 c1 c2 c3 d0 d1 d2 d3 f0 f1 f2 f3
    obtain ⟨c0, c1, c2, c3⟩ := blk4 KB5.out
    obtain ⟨d0, d1, d2, d3⟩ := blk4 K5.out
    have f0 := K5.out.frozen 0
    have f1 := K5.out.frozen 1
    have f2 := K5.out.frozen 2
    have f3 := K5.out.frozen 3
    go_wp2_with (fail)
    refine bodyPost_ret (v := .tuple #[.agg #[.int .i64 n2, .int .i64 o2, .slice A2 q2 ca2, .slice B2 q2 cb2], .slice Aa na ca, .slice (some ⟨gg, 0, none⟩) (k + 1) cap]) ?_ rfl ⟨_, _, _, rfl, (F5.out.store S2.out).lower (Nat.le_of_lt S2.out), (HA5.out.store S2.out).lower (Nat.le_of_lt S2.out), (HN.out.store L3.out).lower (Nat.le_of_lt L3.out), store4_below X5.out (Nat.le_refl _)⟩
    exact results_cell_two (fn := Try.f12) rfl _ _ w.heap.size 25 _ _ _ _ rfl rfl rfl (store4_blk K5.out) Try.underlying25 rfl (by kernel_rfl)

end Go.Proofs.Ytlcpbdbdiahmjaa

