/- Texts of this seat in one: Y2 Y4 Y7. -/
import Derived.Test.YtlcpbdbdiahmjaaMB
import Derived.Test.YtlcpbdbdiahmjaaMF
import Derived.Test.YtlcpbdbdiahmjaaMU

/- The walk of the law FnRingValid. -/
namespace Go.Proofs.Ytlcpbdbdiahmjaa
open Go.RowKit
set_option maxRecDepth 100000

theorem AnyR.rin {D : Nat} {w : World} {v : Value} (h : AnyR D w v) : ∃ (n o : Int) (A B : Option Addr) (q ca cb : Nat) (X Y : List Int), v = .agg #[.int .i64 n, .int .i64 o, .slice A q ca, .slice B q cb] ∧ RIn w A q ca B q cb X Y ∧ q ≤ 256 ∧ n ≤ 9223372036854775807 := by
  have h0 := h
  obtain ⟨n, o, A, B, q, ca, cb, X, Y, e, h1, h2, h3, h4, h5, h6⟩ := h.data
  subst e
  exact ⟨n, o, A, B, q, ca, cb, X, Y, rfl, ⟨h1.ints, h2.ints, by omega, by omega, h5, h6⟩, h4, AnyR.le h0⟩
theorem RIn.ext {A B : Option Addr} {la ca lb cb : Nat} {X Y : List Int} {w : World} (h : RIn w A la ca B lb cb X Y) (u : Ext w) : RIn (ext w u) A la ca B lb cb X Y := h.next (ext_below w u)
end Go.Proofs.Ytlcpbdbdiahmjaa



/- Drawn laws: the laws' own helpers. -/
namespace Go.Proofs.Ytlcpbdbdiahmjaa
open Go.RowKit
set_option maxRecDepth 100000

set_option maxHeartbeats 1000000 in
theorem frSame_any (A B : Option Addr) (n k ca cb : Nat) (xs ys : List Int) (w : World) (C D : Nat) (hA : Ints w C A n xs) (hB : Ints w D B k ys) (hn : n ≤ 9223372036854775807) (hk : k ≤ 9223372036854775807) :
    Calls Try.prog 15 #[.slice A n ca, .slice B k cb] w fun e w' => e = .returned (.bool (eqL xs ys)) ∧ Below w.heap.size w w' := by
  have HA := Lib.hid hA
  have HB := Lib.hid hB
  clear hA hB
  rcases Nat.lt_trichotomy n k with hnk | hnk | hnk
  · have HX := Lib.hid (eqL_len (xs := xs) (ys := ys) (by rw [HA.out.1, HB.out.1]; omega))
    have tt : ((n : Int) == (k : Int)) = false := by rw [beq_eq_false_iff_ne]; omega
    go_enter Try.func15, Try.ntmps15
    go_wp2
    go_loopw [11] (fun i wr => ∃ j : Nat, j ≤ n ∧ i = .int .i64 j ∧ AlikeTo xs ys j ∧ ∃ d : Nat, wr = w.drewN d) (fun i _ => n - (intOf i).toNat)
    case atStart => exact ⟨0, Nat.zero_le _, rfl, fun j hj => absurd hj (by omega), 0, rfl⟩
    case round =>
      obtain ⟨j, hj, rfl, hup, d, rfl⟩ := hrel
      have HU := Lib.hid hup
      clear hup
      by_cases hlt : j < n
      · obtain ⟨b1, o1, rfl, _, hc1⟩ := HA.out.at_ (show j < n by omega)
        obtain ⟨b2, o2, rfl, _, hc2⟩ := HB.out.at_ (show j < k by omega)
        by_cases he : xs[j]?.getD 0 = ys[j]?.getD 0
        · have HE := Lib.hid he
          have te : (xs[j]?.getD 0 != ys[j]?.getD 0) = false := by rw [bne_eq_false_iff_eq]; exact he
          have t1 : xs[j]?.getD 0 ≤ ys[j]?.getD 0 := by omega
          have t2 : ys[j]?.getD 0 ≤ xs[j]?.getD 0 := by omega
          clear he
          go_wp2
          go_quiet (fail)
          go_wp2
          go_roundw
          case rel => exact ⟨j + 1, by omega, by go_num, forall_succ HU.out HE.out, _, rfl⟩
          case measure => simp [intOf]; omega
        · have HE := Lib.hid he
          have te : (xs[j]?.getD 0 != ys[j]?.getD 0) = true := by rw [bne_iff_ne]; exact he
          clear he
          go_wp2
          go_quiet (fail)
          go_wp2
          go_ret
          exact ⟨ret_bool (eqL_false HE.out).symm, below_drewN (below_drewN (Below.refl _ _) _) _⟩
      · go_wp2
        go_ret
        exact ⟨ret_bool (HX.out).symm, below_drewN (Below.refl _ _) _⟩
  · subst hnk
    go_enter Try.func15, Try.ntmps15
    go_wp2
    go_loopw [11] (fun i wr => ∃ j : Nat, j ≤ n ∧ i = .int .i64 j ∧ AlikeTo xs ys j ∧ ∃ d : Nat, wr = w.drewN d) (fun i _ => n - (intOf i).toNat)
    case atStart => exact ⟨0, Nat.zero_le _, rfl, fun j hj => absurd hj (by omega), 0, rfl⟩
    case round =>
      obtain ⟨j, hj, rfl, hup, d, rfl⟩ := hrel
      have HU := Lib.hid hup
      clear hup
      by_cases hlt : j < n
      · obtain ⟨b1, o1, rfl, _, hc1⟩ := HA.out.at_ (show j < n by omega)
        obtain ⟨b2, o2, rfl, _, hc2⟩ := HB.out.at_ (show j < n by omega)
        by_cases he : xs[j]?.getD 0 = ys[j]?.getD 0
        · have HE := Lib.hid he
          have te : (xs[j]?.getD 0 != ys[j]?.getD 0) = false := by rw [bne_eq_false_iff_eq]; exact he
          have t1 : xs[j]?.getD 0 ≤ ys[j]?.getD 0 := by omega
          have t2 : ys[j]?.getD 0 ≤ xs[j]?.getD 0 := by omega
          clear he
          go_wp2
          go_quiet (fail)
          go_wp2
          go_roundw
          case rel => exact ⟨j + 1, by omega, by go_num, forall_succ HU.out HE.out, _, rfl⟩
          case measure => simp [intOf]; omega
        · have HE := Lib.hid he
          have te : (xs[j]?.getD 0 != ys[j]?.getD 0) = true := by rw [bne_iff_ne]; exact he
          clear he
          go_wp2
          go_quiet (fail)
          go_wp2
          go_ret
          exact ⟨ret_bool (eqL_false HE.out).symm, below_drewN (below_drewN (Below.refl _ _) _) _⟩
      · go_wp2
        go_ret
        exact ⟨ret_bool (eqL_true (by rw [HA.out.1, HB.out.1]) fun i hi => HU.out i (by rw [HA.out.1] at hi; omega)).symm, below_drewN (Below.refl _ _) _⟩
  · have HX := Lib.hid (eqL_len (xs := xs) (ys := ys) (by rw [HA.out.1, HB.out.1]; omega))
    have tt : ((n : Int) == (k : Int)) = false := by rw [beq_eq_false_iff_ne]; omega
    go_enter Try.func15, Try.ntmps15
    go_wp2
    go_loopw [11] (fun i wr => ∃ j : Nat, j ≤ k ∧ i = .int .i64 j ∧ AlikeTo xs ys j ∧ ∃ d : Nat, wr = w.drewN d) (fun i _ => k - (intOf i).toNat)
    case atStart => exact ⟨0, Nat.zero_le _, rfl, fun j hj => absurd hj (by omega), 0, rfl⟩
    case round =>
      obtain ⟨j, hj, rfl, hup, d, rfl⟩ := hrel
      have HU := Lib.hid hup
      clear hup
      by_cases hlt : j < k
      · obtain ⟨b1, o1, rfl, _, hc1⟩ := HA.out.at_ (show j < n by omega)
        obtain ⟨b2, o2, rfl, _, hc2⟩ := HB.out.at_ (show j < k by omega)
        by_cases he : xs[j]?.getD 0 = ys[j]?.getD 0
        · have HE := Lib.hid he
          have te : (xs[j]?.getD 0 != ys[j]?.getD 0) = false := by rw [bne_eq_false_iff_eq]; exact he
          have t1 : xs[j]?.getD 0 ≤ ys[j]?.getD 0 := by omega
          have t2 : ys[j]?.getD 0 ≤ xs[j]?.getD 0 := by omega
          clear he
          go_wp2
          go_quiet (fail)
          go_wp2
          go_roundw
          case rel => exact ⟨j + 1, by omega, by go_num, forall_succ HU.out HE.out, _, rfl⟩
          case measure => simp [intOf]; omega
        · have HE := Lib.hid he
          have te : (xs[j]?.getD 0 != ys[j]?.getD 0) = true := by rw [bne_iff_ne]; exact he
          clear he
          go_wp2
          go_quiet (fail)
          go_wp2
          go_ret
          exact ⟨ret_bool (eqL_false HE.out).symm, below_drewN (below_drewN (Below.refl _ _) _) _⟩
      · go_wp2
        go_ret
        exact ⟨ret_bool (HX.out).symm, below_drewN (Below.refl _ _) _⟩

section
variable {m e : Nat} {A B : Option Addr} {la ca lb cb : Nat} {X Y : List Int} {w : World}
/-- A valid ring that lies in a world, as tables. -/
theorem RIn.at_ (h : RIn w A la ca B lb cb X Y) (hv : validB m e X Y = true) : ∃ b1 o1 b2 o2, A = some ⟨b1, o1, none⟩ ∧ B = some ⟨b2, o2, none⟩ ∧ RingAt w m e b1 o1 la ca b2 o2 lb cb (tabOf X) (tabOf Y) := by
  obtain ⟨m', e', b1, o1, b2, o2, e1, e2, e3, e4, hr, _⟩ := valid_data hv h.hX h.hY h.hca h.hcb
  have e1' : m = m' := by omega
  have e2' : e = e' := by omega
  subst e1' e2'
  exact ⟨b1, o1, b2, o2, e3, e4, hr⟩
end

end Go.Proofs.Ytlcpbdbdiahmjaa



/- Drawn laws of several rings: what calls that hand back rings hand back, and tests of rings. -/
namespace Go.Proofs.Ytlcpbdbdiahmjaa
open Go.RowKit
set_option maxRecDepth 100000

theorem RingOut.rin {D : Nat} {w : World} {v : Value} {n o : Int} {X Y : List Int} (h : RingOut D w v n o X Y) : ∃ (A B : Option Addr) (la ca lb cb : Nat), v = .agg #[.int .i64 n, .int .i64 o, .slice A la ca, .slice B lb cb] ∧ RIn w A la ca B lb cb X Y := by
  obtain ⟨A, la, ca, B, lb, cb, e, h1, h2, _, h3, h4, _, h5, h6⟩ := h
  exact ⟨A, B, la, ca, lb, cb, e, h1.ints, h2.ints, by omega, by omega, h5, h6⟩
theorem RingOutB.rin {D : Nat} {w : World} {v : Value} {n o : Int} {X Y : List Int} (h : RingOutB D w v n o X Y) : ∃ (A B : Option Addr) (la ca lb cb : Nat), v = .agg #[.int .i64 n, .int .i64 o, .slice A la ca, .slice B lb cb] ∧ RIn w A la ca B lb cb X Y := by
  obtain ⟨A, la, ca, B, lb, cb, e, h1, h2, ⟨_, h3, h4, _, h5, h6⟩, _⟩ := h
  exact ⟨A, B, la, ca, lb, cb, e, h1.ints, h2.ints, by omega, by omega, h5, h6⟩
/-- A list that a call hands out, as an argument. -/
theorem SliceOut.at_ {D n c : Nat} {A : Option Addr} {w : World} {Z : List Int} (h : SliceOut D w (.slice A n c) Z) : Ints w w.heap.size A n Z ∧ n ≤ c ∧ n ≤ 1048570 := by
  obtain ⟨A', l, c', e, h1, h2, h3⟩ := h
  injection e with e1 e2 e3
  subst e1 e2 e3
  exact ⟨h1.ints, h2, h3⟩

end Go.Proofs.Ytlcpbdbdiahmjaa

