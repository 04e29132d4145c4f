/- Integers of both sides. -/
import Derived.Test.YtplligjoegjngaaR0
import Derived.Test.YtplligjoegjngaaG4
namespace Go.Proofs.Ytplligjoegjngaa
open Go.RowKit
set_option maxRecDepth 100000

theorem making_ib (m : Nat) (hm : 1 ≤ m) (hm' : m ≤ 16) (w0 : World) : Making w0 (.agg #[.int .i64 m]) 177 175 173 174 178 176
    m (1 % m) (fun a => .int .i64 a) (fun a b => .int .i64 (((a + b) % m : Nat) : Int)) (fun a b => .int .i64 ((a * b % m : Nat) : Int)) (fun a b => (a + b) % m) (fun a b => a * b % m) (.int .i64 ((1 % m : Nat) : Int)) :=
  ⟨fun w _ => ibSize_any m w, fun w _ => ibOne_any m hm w, fun w _ => ibNumber_any m _ w, fun w _ a _ => ibElement_any m a w, fun w _ a b ha hb => ibSum_any m a b hm' ha hb w, fun w _ a b ha hb => ibProduct_any m a b hm' ha hb w,
    fun w _ _ _ _ _ => ibNumber_any m _ w, fun w _ _ _ _ _ => ibNumber_any m _ w⟩

theorem tabZ_length {m k : Nat} {f : Nat → Nat → Nat} : (tabZ m f k).length = k := by simp [tabZ]
theorem addZ_tab {m k : Nat} : addZ m k = tabZ m (fun a b => (a + b) % m) k := rfl
theorem mulZ_tab {m k : Nat} : mulZ m k = tabZ m (fun a b => a * b % m) k := rfl

/-- What Integers hands back. -/
def intOk (x : Int) : Bool := decide (1 ≤ x) && decide (x ≤ 16)
def intN (x : Int) : Int := if intOk x then x else 0
def intO (x : Int) : Int := if intOk x then ((1 % x.toNat : Nat) : Int) else 0
def intX (x : Int) : List Int := if intOk x then tabZ x.toNat (fun a b => (a + b) % x.toNat) (x.toNat * x.toNat) else []
def intY (x : Int) : List Int := if intOk x then tabZ x.toNat (fun a b => a * b % x.toNat) (x.toNat * x.toNat) else []

theorem sq16 {m : Nat} (hm' : m ≤ 16) : m * m ≤ 1000 := by
  have h2 : m * m ≤ 16 * 16 := Nat.mul_le_mul hm' hm'
  omega

set_option maxHeartbeats 2000000 in
theorem implIntegers_any (x : Int) (w : World) :
    Calls Try.prog 20 #[.int .i64 x] w fun e w' => ∃ v, e = .returned (.tuple #[v, .bool (intOk x)]) ∧ RingOut w.heap.size w' v (intN x) (intO x) (intX x) (intY x) ∧ Below w.heap.size w w' := by
  have b0 : Below w.heap.size w (w.alloc (.cells #[.int .i64 0, .int .i64 0, .slice none 0 0, .slice none 0 0] 24)) := (Below.refl _ _).alloc (Nat.le_refl _) _
  have k0 := Blk.new w 24 #[.int .i64 0, .int .i64 0, .slice none 0 0, .slice none 0 0]
  by_cases hx : 1 ≤ x ∧ x ≤ 16
  · obtain ⟨m, rfl⟩ : ∃ m : Nat, x = m := ⟨x.toNat, by omega⟩
    have e : intOk (m : Int) = true := by simp [intOk]; omega
    have hm : 1 ≤ m := by omega
    have hm' : m ≤ 16 := by omega
    simp only [intN, intO, intX, intY, e, if_true, Int.toNat_natCast]
    have B0 := Lib.hid b0
    have K0 := Lib.hid k0
    clear b0 k0 e
    go_enter Try.func20, Try.ntmps20
    go_wp2_with (go_at_call 75; refine (madeIb_any m m _ _ _ _ _ _ _ hm hm' _ (making_ib m hm hm' _)).mono ?_; rintro e1 w1 ⟨v, rfl, hn, hb1⟩; obtain ⟨A, la, ca, B, lb, cb, rfl, oA, oB, hr⟩ := hn.out (sq16 hm') tabZ_length tabZ_length; have OA := Lib.hid oA; have OB := Lib.hid oB; have HR := Lib.hid hr; have K1 := Lib.hid (K0.out.below hb1 K0.out.lt); have B1 := Lib.hid (B0.out.trans (hb1.mono B0.out.size)); clear hn hb1 oA oB hr; have d0 := K1.out.cell 0; have d1 := K1.out.cell 1; have d2 := K1.out.cell 2; have d3 := K1.out.cell 3; have f0 := K1.out.frozen 0; have f1 := K1.out.frozen 1; have f2 := K1.out.frozen 2; have f3 := K1.out.frozen 3; simp at d0 d1 d2 d3)
    refine bodyPost_ret (v := .tuple #[.agg #[.int .i64 m, .int .i64 ((1 % m : Nat) : Int), .slice A la ca, .slice B lb cb], .bool true]) ?_ rfl ⟨_, rfl, ?_, ?_⟩
    · exact results_cell_flag rfl _ _ w.heap.size 24 _ _ _ rfl rfl (store4_blk K1.out) Try.underlying24 rfl (by kernel_rfl)
    · have hD : w.heap.size + 1 ≤ (w.alloc (.cells #[.int .i64 0, .int .i64 0, .slice none 0 0, .slice none 0 0] 24)).heap.size := by simp
      exact RingOut.lower (store4_out ⟨A, la, ca, B, lb, cb, rfl, OA.out.lower hD, OB.out.lower hD, HR.out⟩ (Nat.lt_succ_self _)) (Nat.le_succ _)
    · exact store4_below B1.out (Nat.le_refl _)
  · have e : intOk x = false := by simp [intOk]; omega
    simp only [intN, intO, intX, intY, e, Bool.false_eq_true, if_false]
    have B0 := Lib.hid b0
    have K0 := Lib.hid k0
    have d0 := K0.out.cell 0
    have d1 := K0.out.cell 1
    have d2 := K0.out.cell 2
    have d3 := K0.out.cell 3
    have f0 := K0.out.frozen 0
    have f1 := K0.out.frozen 1
    have f2 := K0.out.frozen 2
    have f3 := K0.out.frozen 3
    have tt : (decide (x < 1) || decide (16 < x)) = true := by simp; omega
    simp at d0 d1 d2 d3
    clear b0 k0
    go_enter Try.func20, Try.ntmps20
    go_wp2
    all_goals
      refine bodyPost_ret (v := .tuple #[.agg #[.int .i64 0, .int .i64 0, .slice none 0 0, .slice none 0 0], .bool false]) ?_ rfl ⟨_, rfl, RingOut.zero, B0.out⟩
      exact results_cell_flag rfl _ _ w.heap.size 24 _ _ _ rfl rfl K0.out Try.underlying24 rfl (by kernel_rfl)

set_option maxHeartbeats 2000000 in
theorem specIntegers_any (x : Int) (w : World) :
    Calls Try.prog 19 #[.int .i64 x] w fun e w' => ∃ v, e = .returned (.tuple #[v, .bool (intOk x)]) ∧ RingOut w.heap.size w' v (intN x) (intO x) (intX x) (intY x) ∧ Below w.heap.size w w' := by
  have b0 : Below w.heap.size w (w.alloc (.cells #[.int .i64 0, .int .i64 0, .slice none 0 0, .slice none 0 0] 24)) := (Below.refl _ _).alloc (Nat.le_refl _) _
  have k0 := Blk.new w 24 #[.int .i64 0, .int .i64 0, .slice none 0 0, .slice none 0 0]
  by_cases hx : 1 ≤ x ∧ x ≤ 16
  · obtain ⟨m, rfl⟩ : ∃ m : Nat, x = m := ⟨x.toNat, by omega⟩
    have e : intOk (m : Int) = true := by simp [intOk]; omega
    have e2 := Lib.hid (show inC (m : Int) 1 16 = true by simp [inC]; omega)
    have hm : 1 ≤ m := by omega
    have hm' : m ≤ 16 := by omega
    simp only [intN, intO, intX, intY, e, if_true, Int.toNat_natCast]
    have B0 := Lib.hid b0
    have K0 := Lib.hid k0
    clear b0 k0 e
    go_enter Try.func19, Try.ntmps19
    go_wp2_with (first | (go_at_call 73; refine (l1In_any m 1 16 _).mono ?_; rintro e1 w1 ⟨rfl, rfl⟩; rw [e2.out]) | (go_at_call 74; refine (l1Integers_any m hm hm' _).mono ?_; rintro e1 w1 ⟨v, rfl, hn, hb1⟩; obtain ⟨A, la, ca, B, lb, cb, rfl, oA, oB, hr⟩ := hn.out (sq16 hm') (by simp [addZ]) (by simp [mulZ]); have OA := Lib.hid oA; have OB := Lib.hid oB; have HR := Lib.hid hr; have K1 := Lib.hid (K0.out.below hb1 K0.out.lt); have B1 := Lib.hid (B0.out.trans (hb1.mono B0.out.size)); clear hn hb1 oA oB hr; have d0 := K1.out.cell 0; have d1 := K1.out.cell 1; have d2 := K1.out.cell 2; have d3 := K1.out.cell 3; have f0 := K1.out.frozen 0; have f1 := K1.out.frozen 1; have f2 := K1.out.frozen 2; have f3 := K1.out.frozen 3; simp at d0 d1 d2 d3))
    refine bodyPost_ret (v := .tuple #[.agg #[.int .i64 m, .int .i64 ((1 % m : Nat) : Int), .slice A la ca, .slice B lb cb], .bool true]) ?_ rfl ⟨_, rfl, ?_, ?_⟩
    · exact results_cell_flag rfl _ _ w.heap.size 24 _ _ _ rfl rfl (store4_blk K1.out) Try.underlying24 rfl (by kernel_rfl)
    · have hD : w.heap.size + 1 ≤ (w.alloc (.cells #[.int .i64 0, .int .i64 0, .slice none 0 0, .slice none 0 0] 24)).heap.size := by simp
      exact RingOut.lower (store4_out ⟨A, la, ca, B, lb, cb, rfl, OA.out.lower hD, OB.out.lower hD, HR.out⟩ (Nat.lt_succ_self _)) (Nat.le_succ _)
    · exact store4_below B1.out (Nat.le_refl _)
  · have e : intOk x = false := by simp [intOk]; omega
    simp only [intN, intO, intX, intY, e, Bool.false_eq_true, if_false]
    have B0 := Lib.hid b0
    have K0 := Lib.hid k0
    have e2 := Lib.hid (show inC x 1 16 = false by simp [inC]; omega)
    have d0 := K0.out.cell 0
    have d1 := K0.out.cell 1
    have d2 := K0.out.cell 2
    have d3 := K0.out.cell 3
    have f0 := K0.out.frozen 0
    have f1 := K0.out.frozen 1
    have f2 := K0.out.frozen 2
    have f3 := K0.out.frozen 3
    simp at d0 d1 d2 d3
    clear b0 k0
    go_enter Try.func19, Try.ntmps19
    go_wp2_with (go_at_call 73; refine (l1In_any x 1 16 _).mono ?_; rintro e1 w1 ⟨rfl, rfl⟩; rw [e2.out])
    refine bodyPost_ret (v := .tuple #[.agg #[.int .i64 0, .int .i64 0, .slice none 0 0, .slice none 0 0], .bool false]) ?_ rfl ⟨_, rfl, RingOut.zero, B0.out⟩
    exact results_cell_flag rfl _ _ w.heap.size 24 _ _ _ rfl rfl K0.out Try.underlying24 rfl (by kernel_rfl)

end Go.Proofs.Ytplligjoegjngaa
