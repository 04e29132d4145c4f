
/- Lists that are collected from an iterator: where, AppendSeq, Collect. -/
import Derived.Test.YtocoegekdamlbaaI1
import Derived.Maps.AppendAt
namespace Go.Proofs.Ytocoegekdamlbaa
open Go.RowKit Go.Shelf
set_option maxRecDepth 100000
attribute [local go_sem] Oper.semAt_some

theorem where_any (n o : Int) (A B : Option Addr) (la ca lb cb pf : Nat) (bd : Array Value) (w : World) :
    Calls Try.prog 76 #[.agg #[.int .i64 n, .int .i64 o, .slice A la ca, .slice B lb cb], .func (.func pf) bd #[]] w fun e w' =>
      e = .returned (.func (.func 95) #[] #[.pointer (some ⟨w.heap.size, 0, none⟩), .pointer (some ⟨w.heap.size + 1, 0, none⟩)]) ∧
      Blk w' w.heap.size 28 #[.int .i64 n, .int .i64 o, .slice A la ca, .slice B lb cb] ∧ Blk w' (w.heap.size + 1) 63 #[.func (.func pf) bd #[]] ∧ Below w.heap.size w w' := by
  go_enter Try.func76, Try.ntmps76
  go_wp2
  go_ret
  refine ⟨rfl, (Blk.new _ _ _).alloc _, ?_, ((Below.refl _ _).alloc (Nat.le_refl _) _).alloc (by simp) _⟩
  have := Blk.new (w.alloc (.cells #[.int .i64 n, .int .i64 o, .slice A la ca, .slice B lb cb] 28)) 63 #[.func (.func pf) bd #[]]
  rw [World.size_alloc] at this
  exact this

abbrev encF (m : Nat) (x : Fin m) : Array Value := #[.int .i64 (x.1 : Int)]
abbrev finV {m : Nat} (l : List (Fin m)) : List Value := l.map fun x => .int .i64 (x.1 : Int)
/-- What where hands back is an iterator over the elements that pass the test. -/
theorem where_stops (n m Br Bp pf : Nat) (bd : Array Value) (p : Nat → Bool) (hn : 1 ≤ n) (hm' : m ≤ 16) (Kp : World → World → Prop) (Inv : World → Prop)
    (eg : ∀ args w, (callFunc pf args).run Try.prog w = .ok (.enter pf args) w)
    (i1 : ∀ W, Inv W → W.cell? ⟨Br, 0, none⟩ = some (.int .i64 m)) (i2 : ∀ W, Inv W → W.cell? ⟨Bp, 0, none⟩ = some (.func (.func pf) bd #[])) (i3 : ∀ W W', Inv W → Below W.heap.size W W' → Inv W') (i4 : ∀ W W', Inv W → Kp W W' → Inv W')
    (hp : ∀ a, a < m → ∀ W, Inv W → Calls Try.prog pf (bd.push (.int .i64 a)) W fun e w' => e = .returned (.bool (p a)) ∧ Below W.heap.size W w')
    (w : World) (hI : ∀ W, Below w.heap.size w W → Inv W) :
    SeqStopsK Fence.wide n Try.prog 95 #[.pointer (some ⟨Br, 0, none⟩), .pointer (some ⟨Bp, 0, none⟩)] (encF m) Kp (fun ys => ys = selTo m p m) (fun pre => pre <+: selTo m p m) m w :=
  fun l J Jx W hW hJ _ hY h0 => where1_in n m l Br Bp pf bd p hn hm' Kp Inv eg i1 i2 i3 i4 hp J Jx W hJ hY (hI W hW) h0

set_option maxHeartbeats 4000000 in
theorem appendSeq_any (m gf n0 N : Nat) (lb : Array Value) (L : List (Fin m)) (Sp : List (Fin m) → Prop) (w : World) (eg : ∀ args w, (callFunc gf args).run Try.prog w = .ok (.enter gf args) w)
    (hseq : SeqStopsK Fence.wide 2 Try.prog gf lb (encF m) (Below n0) (fun ys => ys = L) Sp N w) (hN : N ≤ 1000) (hn0 : n0 ≤ w.heap.size) :
    Calls Try.prog 94 #[.slice none 0 0, .func (.func gf) #[] lb] w fun e w' => ∃ v, e = .returned v ∧ w'.ownsRow w.heap.size 3 1 v L.length (finV L) ∧ Below w.heap.size w w' := by
  obtain ⟨i0, hi, hz0, hz1, hz2⟩ := info_parts int_info
  refine (callsIn_wide (n := 3)).1 ?_
  refine callsIn_of_wp_marks Try.func94 rfl trivial ?_ rfl
  simp only [Try.ntmps94, List.size_toArray, List.length_cons, List.length_nil, Nat.reduceAdd, Nat.reduceSub, Array.replicate_succ, Array.replicate_zero, List.push_toArray, List.append_toArray, List.nil_append, List.cons_append]
  gi_wp2
  have bO := Boxed.new w 22 (.slice none 0 0)
  have hB0 : Below w.heap.size w (w.alloc (.cells #[.slice none 0 0] 22)) := (Below.refl _ w).alloc (Nat.le_refl _) _
  refine wpIn_rangeFunc_ownG rfl (by omega) (gf := gf) (lb := lb) rfl trivial eg hseq belowK_t (belowK_b (by simp; omega)) hB0 (fun _ => rfl)
    (fun pre W => (∃ v, Boxed W w.heap.size 22 v ∧ W.ownsRow w.heap.size 3 1 v pre.length (finV pre) ∧ True) ∧ Below w.heap.size w W)
    (fun _ _ _ => False)
    (OwnFrom.and (Own.from (holdsRow_own w.heap.size w.heap.size 22 3 1 (fun pre => pre.length) (fun pre => finV pre) (fun _ _ => True)) _) (ownFrom_below (Nat.le_refl _) (by simp)))
    (fun _ _ _ _ _ hs _ _ => hs)
    ⟨⟨_, bO, World.ownsRow_nil _ _ _ _, trivial⟩, hB0⟩
    (fun x => { tmps := #[.slice none 0 0, .func (.func gf) #[] lb, .pointer (some ⟨w.heap.size, 0, none⟩), undef, .slice none 0 0, .int .i64 (x.1 : Int), .func (.func gf) #[] lb, .int .i64 (x.1 : Int), undef, undef, undef, undef, undef], defers := [] }) ?assign ?body ?done ?stop
  case assign =>
    intro l x W K hK
    gi_wp2
    exact hK
  case body =>
    rintro l pre x W ⟨⟨v, hv, hrow, _⟩, hB⟩ hlt
    have hc := hv.cell
    gi_wp2_with (gi_at_builtin; refine wpListIn_append_own _ rfl _ _ 22 rfl w.heap.size 3 i0 (.int .i64 0) 1 8 Try.underlying22 hi hz0 hz1 hz2 rfl (by decide) _ _ _ rfl (hrow.alloc _) ⟨W.heap.size, 0, none⟩ 1 1 [.int .i64 (x.1 : Int)] rfl rfl (cell_one_new _ _ _) (by simp [Value.oneCell']) (by unfold maxLen; omega) (by omega) (by have := hB.size; simp; omega) ?_; intro v' w1 hown' hgrow _; obtain ⟨g', cap', rfl⟩ := ownsRow_succ hown'; obtain ⟨hv1, hv2, hr2, hk2, hb2⟩ := hv.appended (by decide) hrow hB.size (Nat.le_refl _) hown' hgrow; have hc1 := hv1.cell; have hf1 := hv1.frozen)
    exact ⟨hk2.from _, hb2.mono hn0, ⟨_, hv2, by simpa [finV] using hr2, trivial⟩, hB.trans hb2⟩
  case done =>
    rintro D ys W hD rfl ⟨⟨v, hv, hrow, _⟩, hB⟩ hK
    have hc := hv.cell
    gi_wp2
    refine ⟨by simp, .inl ⟨_, _, rfl, run_takeDeferred hK, ?_⟩⟩
    exact ⟨_, results_tmp rfl _ _ _, v, rfl, ownsRow_putObj hrow _ hK rfl, hB.trans (belowK_b (w := w) (Nat.le_refl _) W D _ _ (by simp at hD; omega) hK rfl rfl)⟩
  case stop =>
    rintro D c pre W _ _ h _
    exact h.elim

theorem collect_any (m gf n0 N : Nat) (lb : Array Value) (L : List (Fin m)) (Sp : List (Fin m) → Prop) (w : World) (eg : ∀ args w, (callFunc gf args).run Try.prog w = .ok (.enter gf args) w)
    (hseq : SeqStopsK Fence.wide 2 Try.prog gf lb (encF m) (Below n0) (fun ys => ys = L) Sp N w) (hN : N ≤ 1000) (hn0 : n0 ≤ w.heap.size) :
    Calls Try.prog 75 #[.func (.func gf) #[] lb] w fun e w' => ∃ v, e = .returned v ∧ w'.ownsRow w.heap.size 3 1 v L.length (finV L) ∧ Below w.heap.size w w' := by
  have H := Lib.hid (appendSeq_any m gf n0 N lb L Sp w eg hseq hN hn0)
  clear eg hseq
  go_enter Try.func75, Try.ntmps75
  go_wp2_with (go_at_call 94; (with_reducible refine H.out.mono ?_); rintro e1 w1 ⟨v, rfl, ho, hb⟩)
  go_ret
  exact ⟨v, rfl, ho, hb⟩

end Go.Proofs.Ytocoegekdamlbaa
