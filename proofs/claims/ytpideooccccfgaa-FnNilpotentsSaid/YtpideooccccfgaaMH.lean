/- Texts of this seat in one: Y2 Y4 Y5 Y6. -/
import Derived.Test.YtpideooccccfgaaMB
import Derived.Test.YtpideooccccfgaaMF
import Derived.Test.YtpideooccccfgaaMG

/- The walk of the law FnRingValid. -/
namespace Go.Proofs.Ytpideooccccfgaa
open Go.RowKit
set_option maxRecDepth 100000

theorem AnyR.rin {D : Nat} {w : World} {v : Value} (h : AnyR D w v) : ∃ (n o : Int) (A B : Option Addr) (q ca cb : Nat) (X Y : List Int), v = .agg #[.int .i64 n, .int .i64 o, .slice A q ca, .slice B q cb] ∧ RIn w A q ca B q cb X Y ∧ q ≤ 256 ∧ n ≤ 9223372036854775807 := by
  have h0 := h
  obtain ⟨n, o, A, B, q, ca, cb, X, Y, e, h1, h2, h3, h4, h5, h6⟩ := h.data
  subst e
  exact ⟨n, o, A, B, q, ca, cb, X, Y, rfl, ⟨h1.ints, h2.ints, by omega, by omega, h5, h6⟩, h4, AnyR.le h0⟩
theorem RIn.ext {A B : Option Addr} {la ca lb cb : Nat} {X Y : List Int} {w : World} (h : RIn w A la ca B lb cb X Y) (u : Ext w) : RIn (ext w u) A la ca B lb cb X Y := h.next (ext_below w u)
theorem c_format {n o : Int} {A B : Option Addr} {la ca lb cb : Nat} {X Y : List Int} {w : World} (h : RIn w A la ca B lb cb X Y) (z : ByteArray) (hz : fmtV n o X Y = z) : Calls Try.prog 20 #[.agg #[.int .i64 n, .int .i64 o, .slice A la ca, .slice B lb cb]] w fun e' w' => e' = .returned (.string z) ∧ Below w.heap.size w w' := by
  subst hz
  exact format_any n o A B la ca lb cb X Y w h.hX h.hY h.hla h.hlb h.hca h.hcb

end Go.Proofs.Ytpideooccccfgaa


/- Drawn laws: the laws' own helpers. -/
namespace Go.Proofs.Ytpideooccccfgaa
open Go.RowKit
set_option maxRecDepth 100000

set_option maxHeartbeats 1000000 in
theorem frSame_any (A B : Option Addr) (n k ca cb : Nat) (xs ys : List Int) (w : World) (C D : Nat) (hA : Ints w C A n xs) (hB : Ints w D B k ys) (hn : n ≤ 9223372036854775807) (hk : k ≤ 9223372036854775807) :
    Calls Try.prog 52 #[.slice A n ca, .slice B k cb] w fun e w' => e = .returned (.bool (eqL xs ys)) ∧ Below w.heap.size w w' := by
  have HA := Lib.hid hA
  have HB := Lib.hid hB
  clear hA hB
  rcases Nat.lt_trichotomy n k with hnk | hnk | hnk
  · have HX := Lib.hid (eqL_len (xs := xs) (ys := ys) (by rw [HA.out.1, HB.out.1]; omega))
    have tt : ((n : Int) == (k : Int)) = false := by rw [beq_eq_false_iff_ne]; omega
    go_enter Try.func52, Try.ntmps52
    go_wp2
    go_loopw [11] (fun i wr => ∃ j : Nat, j ≤ n ∧ i = .int .i64 j ∧ AlikeTo xs ys j ∧ ∃ d : Nat, wr = w.drewN d) (fun i _ => n - (intOf i).toNat)
    case atStart => exact ⟨0, Nat.zero_le _, rfl, fun j hj => absurd hj (by omega), 0, rfl⟩
    case round =>
      obtain ⟨j, hj, rfl, hup, d, rfl⟩ := hrel
      have HU := Lib.hid hup
      clear hup
      by_cases hlt : j < n
      · obtain ⟨b1, o1, rfl, _, hc1⟩ := HA.out.at_ (show j < n by omega)
        obtain ⟨b2, o2, rfl, _, hc2⟩ := HB.out.at_ (show j < k by omega)
        by_cases he : xs[j]?.getD 0 = ys[j]?.getD 0
        · have HE := Lib.hid he
          have te : (xs[j]?.getD 0 != ys[j]?.getD 0) = false := by rw [bne_eq_false_iff_eq]; exact he
          have t1 : xs[j]?.getD 0 ≤ ys[j]?.getD 0 := by omega
          have t2 : ys[j]?.getD 0 ≤ xs[j]?.getD 0 := by omega
          clear he
          go_wp2
          go_quiet (fail)
          go_wp2
          go_roundw
          case rel => exact ⟨j + 1, by omega, by go_num, forall_succ HU.out HE.out, _, rfl⟩
          case measure => simp [intOf]; omega
        · have HE := Lib.hid he
          have te : (xs[j]?.getD 0 != ys[j]?.getD 0) = true := by rw [bne_iff_ne]; exact he
          clear he
          go_wp2
          go_quiet (fail)
          go_wp2
          go_ret
          exact ⟨ret_bool (eqL_false HE.out).symm, below_drewN (below_drewN (Below.refl _ _) _) _⟩
      · go_wp2
        go_ret
        exact ⟨ret_bool (HX.out).symm, below_drewN (Below.refl _ _) _⟩
  · subst hnk
    go_enter Try.func52, Try.ntmps52
    go_wp2
    go_loopw [11] (fun i wr => ∃ j : Nat, j ≤ n ∧ i = .int .i64 j ∧ AlikeTo xs ys j ∧ ∃ d : Nat, wr = w.drewN d) (fun i _ => n - (intOf i).toNat)
    case atStart => exact ⟨0, Nat.zero_le _, rfl, fun j hj => absurd hj (by omega), 0, rfl⟩
    case round =>
      obtain ⟨j, hj, rfl, hup, d, rfl⟩ := hrel
      have HU := Lib.hid hup
      clear hup
      by_cases hlt : j < n
      · obtain ⟨b1, o1, rfl, _, hc1⟩ := HA.out.at_ (show j < n by omega)
        obtain ⟨b2, o2, rfl, _, hc2⟩ := HB.out.at_ (show j < n by omega)
        by_cases he : xs[j]?.getD 0 = ys[j]?.getD 0
        · have HE := Lib.hid he
          have te : (xs[j]?.getD 0 != ys[j]?.getD 0) = false := by rw [bne_eq_false_iff_eq]; exact he
          have t1 : xs[j]?.getD 0 ≤ ys[j]?.getD 0 := by omega
          have t2 : ys[j]?.getD 0 ≤ xs[j]?.getD 0 := by omega
          clear he
          go_wp2
          go_quiet (fail)
          go_wp2
          go_roundw
          case rel => exact ⟨j + 1, by omega, by go_num, forall_succ HU.out HE.out, _, rfl⟩
          case measure => simp [intOf]; omega
        · have HE := Lib.hid he
          have te : (xs[j]?.getD 0 != ys[j]?.getD 0) = true := by rw [bne_iff_ne]; exact he
          clear he
          go_wp2
          go_quiet (fail)
          go_wp2
          go_ret
          exact ⟨ret_bool (eqL_false HE.out).symm, below_drewN (below_drewN (Below.refl _ _) _) _⟩
      · go_wp2
        go_ret
        exact ⟨ret_bool (eqL_true (by rw [HA.out.1, HB.out.1]) fun i hi => HU.out i (by rw [HA.out.1] at hi; omega)).symm, below_drewN (Below.refl _ _) _⟩
  · have HX := Lib.hid (eqL_len (xs := xs) (ys := ys) (by rw [HA.out.1, HB.out.1]; omega))
    have tt : ((n : Int) == (k : Int)) = false := by rw [beq_eq_false_iff_ne]; omega
    go_enter Try.func52, Try.ntmps52
    go_wp2
    go_loopw [11] (fun i wr => ∃ j : Nat, j ≤ k ∧ i = .int .i64 j ∧ AlikeTo xs ys j ∧ ∃ d : Nat, wr = w.drewN d) (fun i _ => k - (intOf i).toNat)
    case atStart => exact ⟨0, Nat.zero_le _, rfl, fun j hj => absurd hj (by omega), 0, rfl⟩
    case round =>
      obtain ⟨j, hj, rfl, hup, d, rfl⟩ := hrel
      have HU := Lib.hid hup
      clear hup
      by_cases hlt : j < k
      · obtain ⟨b1, o1, rfl, _, hc1⟩ := HA.out.at_ (show j < n by omega)
        obtain ⟨b2, o2, rfl, _, hc2⟩ := HB.out.at_ (show j < k by omega)
        by_cases he : xs[j]?.getD 0 = ys[j]?.getD 0
        · have HE := Lib.hid he
          have te : (xs[j]?.getD 0 != ys[j]?.getD 0) = false := by rw [bne_eq_false_iff_eq]; exact he
          have t1 : xs[j]?.getD 0 ≤ ys[j]?.getD 0 := by omega
          have t2 : ys[j]?.getD 0 ≤ xs[j]?.getD 0 := by omega
          clear he
          go_wp2
          go_quiet (fail)
          go_wp2
          go_roundw
          case rel => exact ⟨j + 1, by omega, by go_num, forall_succ HU.out HE.out, _, rfl⟩
          case measure => simp [intOf]; omega
        · have HE := Lib.hid he
          have te : (xs[j]?.getD 0 != ys[j]?.getD 0) = true := by rw [bne_iff_ne]; exact he
          clear he
          go_wp2
          go_quiet (fail)
          go_wp2
          go_ret
          exact ⟨ret_bool (eqL_false HE.out).symm, below_drewN (below_drewN (Below.refl _ _) _) _⟩
      · go_wp2
        go_ret
        exact ⟨ret_bool (HX.out).symm, below_drewN (Below.refl _ _) _⟩

set_option maxHeartbeats 2000000 in
theorem frRing_any (n o n' o' : Int) (A B A' B' : Option Addr) (la ca lb cb la' ca' lb' cb' : Nat) (X Y X' Y' : List Int) (w : World) (hA : Ints w w.heap.size A la X) (hB : Ints w w.heap.size B lb Y) (hA' : Ints w w.heap.size A' la' X') (hB' : Ints w w.heap.size B' lb' Y')
    (hla : la ≤ 9223372036854775807) (hlb : lb ≤ 9223372036854775807) (hla' : la' ≤ 9223372036854775807) (hlb' : lb' ≤ 9223372036854775807) :
    Calls Try.prog 24 #[.agg #[.int .i64 n, .int .i64 o, .slice A la ca, .slice B lb cb], .agg #[.int .i64 n', .int .i64 o', .slice A' la' ca', .slice B' lb' cb']] w fun e w' => e = .returned (.bool (sameB n o X Y n' o' X' Y')) ∧ Below w.heap.size w w' := by
  obtain ⟨W, hW⟩ : ∃ W, (w.alloc (.cells #[.int .i64 n, .int .i64 o, .slice A la ca, .slice B lb cb] 25)).alloc (.cells #[.int .i64 n', .int .i64 o', .slice A' la' ca', .slice B' lb' cb'] 25) = W := ⟨_, rfl⟩
  have k0 : Blk W w.heap.size 25 #[.int .i64 n, .int .i64 o, .slice A la ca, .slice B lb cb] := by
    subst hW; exact (Blk.new w _ _).alloc _
  have k1 : Blk W (w.heap.size + 1) 25 #[.int .i64 n', .int .i64 o', .slice A' la' ca', .slice B' lb' cb'] := by
    subst hW; simpa using Blk.new (w.alloc (.cells #[.int .i64 n, .int .i64 o, .slice A la ca, .slice B lb cb] 25)) 25 #[.int .i64 n', .int .i64 o', .slice A' la' ca', .slice B' lb' cb']
  have b0 : Below w.heap.size w W := by
    subst hW; exact ((Below.refl _ _).alloc (Nat.le_refl _) _).alloc (by simp) _
  obtain ⟨c0, c1, c2, c3⟩ := blk4 k0
  obtain ⟨d0, d1, d2, d3⟩ := blk4 k1
  have K0 := Lib.hid k0
  have K1 := Lib.hid k1
  have H1 := Lib.hid (hA.next b0)
  have H2 := Lib.hid (hB.next b0)
  have H3 := Lib.hid (hA'.next b0)
  have H4 := Lib.hid (hB'.next b0)
  have B0 := Lib.hid b0
  have HW := Lib.hid hW
  have HV := Lib.hid (sameB_eq (n := n) (o := o) (X := X) (Y := Y) (n' := n') (o' := o') (X' := X') (Y' := Y'))
  clear hA hB hA' hB' k0 k1 b0 hW
  cases q1 : (n == n')
  · go_enter Try.func24, Try.ntmps24
    go_wp2_with (fail)
    go_ret
    exact ⟨ret_bool (by rw [HV.out, q1]; rfl), by rw [HW.out]; exact B0.out⟩
  · cases q2 : (o == o')
    · go_enter Try.func24, Try.ntmps24
      go_wp2_with (fail)
      go_ret
      exact ⟨ret_bool (by rw [HV.out, q1, q2]; rfl), by rw [HW.out]; exact B0.out⟩
    · cases q3 : eqL X X'
      · go_enter Try.func24, Try.ntmps24
        go_wp2_with (fail)
        rw [HW.out]
        go_wp2_with (first
          | (go_at_call 52; ((with_reducible refine (frSame_any A A' la la' ca ca' X X' _ _ _ H1.out H3.out hla hla').mono ?_); rintro e1 w1 ⟨rfl, hb1⟩; obtain ⟨f0, f1, f2, f3⟩ := blk4 (K0.out.next hb1); obtain ⟨g0, g1, g2, g3⟩ := blk4 (K1.out.next hb1); have B1 := Lib.hid hb1; clear hb1))
          | (go_at_call 52; ((with_reducible refine (frSame_any B B' lb lb' cb cb' Y Y' _ _ _ (H2.out.next B1.out) (H4.out.next B1.out) hlb hlb').mono ?_); rintro e2 w2 ⟨rfl, hb2⟩; have B2 := Lib.hid hb2; clear hb2)))
        go_ret
        exact ⟨ret_bool (by rw [HV.out, q1, q2, q3]; rfl), B0.out.trans (B1.out.mono B0.out.size)⟩
      · go_enter Try.func24, Try.ntmps24
        go_wp2_with (fail)
        rw [HW.out]
        go_wp2_with (first
          | (go_at_call 52; ((with_reducible refine (frSame_any A A' la la' ca ca' X X' _ _ _ H1.out H3.out hla hla').mono ?_); rintro e1 w1 ⟨rfl, hb1⟩; obtain ⟨f0, f1, f2, f3⟩ := blk4 (K0.out.next hb1); obtain ⟨g0, g1, g2, g3⟩ := blk4 (K1.out.next hb1); have B1 := Lib.hid hb1; clear hb1))
          | (go_at_call 52; ((with_reducible refine (frSame_any B B' lb lb' cb cb' Y Y' _ _ _ (H2.out.next B1.out) (H4.out.next B1.out) hlb hlb').mono ?_); rintro e2 w2 ⟨rfl, hb2⟩; have B2 := Lib.hid hb2; clear hb2)))
        go_ret
        exact ⟨ret_bool (by rw [HV.out, q1, q2, q3]; rfl), B0.out.trans ((B1.out.mono B0.out.size).trans (B2.out.mono (Nat.le_trans B0.out.size B1.out.size)))⟩


set_option maxHeartbeats 1000000 in
theorem frAt_any (a b : Nat) (m e b1 o1 la ca b2 o2 lb cb : Nat) (S P : Nat → Nat) (w : World) (hr : RingAt w m e b1 o1 la ca b2 o2 lb cb S P) (ha : a < m) (hb : b < m) (tb off tl tc : Nat) (T : Nat → Nat) (hT : Tab w w.heap.size tb off m T) (hl : tl = m * m) :
    Calls Try.prog 130 #[.agg #[.int .i64 m, .int .i64 e, .slice (some ⟨b1, o1, none⟩) la ca, .slice (some ⟨b2, o2, none⟩) lb cb], .slice (some ⟨tb, off, none⟩) tl tc, .int .i64 a, .int .i64 b] w fun e' w' => e' = .returned (.int .i64 (T (a * m + b) : Nat)) ∧ Below w.heap.size w w' := by
  obtain ⟨hm, hm', he, hla, hlb, hca, hcb, ts, tp⟩ := hr
  have hce := ((hT.next ((Below.refl w.heap.size w).alloc (Nat.le_refl _) (.cells #[.int .i64 m, .int .i64 e, .slice (some ⟨b1, o1, none⟩) la ca, .slice (some ⟨b2, o2, none⟩) lb cb] 25))).2 _ (idx_lt ha hb)).1
  obtain ⟨g1, g2, g3, g4, g5⟩ := mul_nums hm' ha hb
  rw [← hl] at g4 g5
  clear ts tp hla hlb hT
  have t1 : decide ((m : Int) > 16) = false := by simp; omega
  have t2 : decide ((a : Int) < 0) = false := by simp
  have t3 : decide ((a : Int) ≥ m) = false := by simp; omega
  have t4 : decide ((b : Int) < 0) = false := by simp
  have t5 : decide ((b : Int) ≥ m) = false := by simp; omega
  have t6 : decide ((a : Int) * m + b ≥ tl) = false := by simp; omega
  go_enter Try.func130, Try.ntmps130
  go_wp2
  go_ret
  exact ⟨rfl, (Below.refl _ _).alloc (Nat.le_refl _) _⟩

set_option maxHeartbeats 1000000 in
theorem frAdd_any (a b : Nat) (m e b1 o1 la ca b2 o2 lb cb : Nat) (S P : Nat → Nat) (w : World) (hr : RingAt w m e b1 o1 la ca b2 o2 lb cb S P) (ha : a < m) (hb : b < m) :
    Calls Try.prog 39 #[.agg #[.int .i64 m, .int .i64 e, .slice (some ⟨b1, o1, none⟩) la ca, .slice (some ⟨b2, o2, none⟩) lb cb], .int .i64 a, .int .i64 b] w fun e' w' => e' = .returned (.int .i64 (S (a * m + b) : Nat)) ∧ Below w.heap.size w w' := by
  have b0 : Below w.heap.size w (w.alloc (.cells #[.int .i64 m, .int .i64 e, .slice (some ⟨b1, o1, none⟩) la ca, .slice (some ⟨b2, o2, none⟩) lb cb] 25)) := (Below.refl _ _).alloc (Nat.le_refl _) _
  obtain ⟨c0, c1, c2, c3, hs⟩ := box4_new w (.int .i64 m) (.int .i64 e) (.slice (some ⟨b1, o1, none⟩) la ca) (.slice (some ⟨b2, o2, none⟩) lb cb) 25
  have HR := Lib.hid (hr.next b0)
  have B0 := Lib.hid b0
  clear b0 hr
  go_enter Try.func39, Try.ntmps39
  go_wp2_with (fail)
  refine (frAt_any a b m e b1 o1 la ca b2 o2 lb cb S P _ HR.out ha hb b1 o1 la ca S HR.out.ts HR.out.hla).mono ?_
  rintro _ w1 ⟨rfl, hb1⟩
  have B1 := Lib.hid hb1
  clear hb1
  go_wp2_with (fail)
  go_ret
  exact ⟨rfl, B0.out.trans (B1.out.mono B0.out.size)⟩

set_option maxHeartbeats 1000000 in
theorem frMul_any (a b : Nat) (m e b1 o1 la ca b2 o2 lb cb : Nat) (S P : Nat → Nat) (w : World) (hr : RingAt w m e b1 o1 la ca b2 o2 lb cb S P) (ha : a < m) (hb : b < m) :
    Calls Try.prog 40 #[.agg #[.int .i64 m, .int .i64 e, .slice (some ⟨b1, o1, none⟩) la ca, .slice (some ⟨b2, o2, none⟩) lb cb], .int .i64 a, .int .i64 b] w fun e' w' => e' = .returned (.int .i64 (P (a * m + b) : Nat)) ∧ Below w.heap.size w w' := by
  have b0 : Below w.heap.size w (w.alloc (.cells #[.int .i64 m, .int .i64 e, .slice (some ⟨b1, o1, none⟩) la ca, .slice (some ⟨b2, o2, none⟩) lb cb] 25)) := (Below.refl _ _).alloc (Nat.le_refl _) _
  obtain ⟨c0, c1, c2, c3, hs⟩ := box4_new w (.int .i64 m) (.int .i64 e) (.slice (some ⟨b1, o1, none⟩) la ca) (.slice (some ⟨b2, o2, none⟩) lb cb) 25
  have HR := Lib.hid (hr.next b0)
  have B0 := Lib.hid b0
  clear b0 hr
  go_enter Try.func40, Try.ntmps40
  go_wp2_with (fail)
  refine (frAt_any a b m e b1 o1 la ca b2 o2 lb cb S P _ HR.out ha hb b2 o2 lb cb P HR.out.tp HR.out.hlb).mono ?_
  rintro _ w1 ⟨rfl, hb1⟩
  have B1 := Lib.hid hb1
  clear hb1
  go_wp2_with (fail)
  go_ret
  exact ⟨rfl, B0.out.trans (B1.out.mono B0.out.size)⟩

section
variable {m e : Nat} {A B : Option Addr} {la ca lb cb : Nat} {X Y : List Int} {w : World}
/-- A valid ring that lies in a world, as tables. -/
theorem RIn.at_ (h : RIn w A la ca B lb cb X Y) (hv : validB m e X Y = true) : ∃ b1 o1 b2 o2, A = some ⟨b1, o1, none⟩ ∧ B = some ⟨b2, o2, none⟩ ∧ RingAt w m e b1 o1 la ca b2 o2 lb cb (tabOf X) (tabOf Y) := by
  obtain ⟨m', e', b1, o1, b2, o2, e1, e2, e3, e4, hr, _⟩ := valid_data hv h.hX h.hY h.hca h.hcb
  have e1' : m = m' := by omega
  have e2' : e = e' := by omega
  subst e1' e2'
  exact ⟨b1, o1, b2, o2, e3, e4, hr⟩
theorem c_frAdd (h : RIn w A la ca B lb cb X Y) (hv : validB m e X Y = true) {a b s : Nat} (ha : a < m) (hb : b < m) (hs : tabOf X (a * m + b) = s) {x y z : Int} (hx : x = a) (hy : y = b) (hz : z = s) : Calls Try.prog 39 #[.agg #[.int .i64 m, .int .i64 e, .slice A la ca, .slice B lb cb], .int .i64 x, .int .i64 y] w fun e' w' => e' = .returned (.int .i64 z) ∧ Below w.heap.size w w' := by
  subst hx hy hz hs
  obtain ⟨b1, o1, b2, o2, rfl, rfl, hr⟩ := h.at_ hv
  exact frAdd_any a b _ _ _ _ _ _ _ _ _ _ _ _ w hr ha hb
theorem c_frMul (h : RIn w A la ca B lb cb X Y) (hv : validB m e X Y = true) {a b s : Nat} (ha : a < m) (hb : b < m) (hs : tabOf Y (a * m + b) = s) {x y z : Int} (hx : x = a) (hy : y = b) (hz : z = s) : Calls Try.prog 40 #[.agg #[.int .i64 m, .int .i64 e, .slice A la ca, .slice B lb cb], .int .i64 x, .int .i64 y] w fun e' w' => e' = .returned (.int .i64 z) ∧ Below w.heap.size w w' := by
  subst hx hy hz hs
  obtain ⟨b1, o1, b2, o2, rfl, rfl, hr⟩ := h.at_ hv
  exact frMul_any a b _ _ _ _ _ _ _ _ _ _ _ _ w hr ha hb
end

end Go.Proofs.Ytpideooccccfgaa


/- Drawn laws: contracts of stage 3's functions over a ring that lies in a world. -/
namespace Go.Proofs.Ytpideooccccfgaa
open Go.RowKit
set_option maxRecDepth 100000
section
variable {n o : Int} {A B : Option Addr} {la ca lb cb : Nat} {X Y : List Int} {w : World}
theorem c_inv (h : RIn w A la ca B lb cb X Y) (x : Int) (z : Int) (hz : invV n o X Y x = z) : Calls Try.prog 67 #[.agg #[.int .i64 n, .int .i64 o, .slice A la ca, .slice B lb cb], .int .i64 x] w fun e' w' => e' = .returned (.int .i64 z) ∧ Below w.heap.size w w' := by
  subst hz
  exact inv_any n o A B la ca lb cb X Y x w h.hX h.hY h.hla h.hlb h.hca h.hcb
theorem cs_inv (h : RIn w A la ca B lb cb X Y) (x : Int) (z : Int) (hz : invV n o X Y x = z) : Calls Try.prog 69 #[.agg #[.int .i64 n, .int .i64 o, .slice A la ca, .slice B lb cb], .int .i64 x] w fun e' w' => e' = .returned (.int .i64 z) ∧ Below w.heap.size w w' := by
  subst hz
  exact sinv_any n o A B la ca lb cb X Y x w h.hX h.hY h.hla h.hlb h.hca h.hcb
theorem c_sord (h : RIn w A la ca B lb cb X Y) (x : Int) (z : Int) (hz : ordV n o X Y x = z) : Calls Try.prog 79 #[.agg #[.int .i64 n, .int .i64 o, .slice A la ca, .slice B lb cb], .int .i64 x] w fun e' w' => e' = .returned (.int .i64 z) ∧ Below w.heap.size w w' := by
  subst hz
  exact sord_any n o A B la ca lb cb X Y x w h.hX h.hY h.hla h.hlb h.hca h.hcb
theorem cs_sord (h : RIn w A la ca B lb cb X Y) (x : Int) (z : Int) (hz : ordV n o X Y x = z) : Calls Try.prog 81 #[.agg #[.int .i64 n, .int .i64 o, .slice A la ca, .slice B lb cb], .int .i64 x] w fun e' w' => e' = .returned (.int .i64 z) ∧ Below w.heap.size w w' := by
  subst hz
  exact ssord_any n o A B la ca lb cb X Y x w h.hX h.hY h.hla h.hlb h.hca h.hcb
theorem c_uord (h : RIn w A la ca B lb cb X Y) (x : Int) (z : Int) (hz : uordV n o X Y x = z) : Calls Try.prog 68 #[.agg #[.int .i64 n, .int .i64 o, .slice A la ca, .slice B lb cb], .int .i64 x] w fun e' w' => e' = .returned (.int .i64 z) ∧ Below w.heap.size w w' := by
  subst hz
  exact uord_any n o A B la ca lb cb X Y x w h.hX h.hY h.hla h.hlb h.hca h.hcb
theorem cs_uord (h : RIn w A la ca B lb cb X Y) (x : Int) (z : Int) (hz : uordV n o X Y x = z) : Calls Try.prog 70 #[.agg #[.int .i64 n, .int .i64 o, .slice A la ca, .slice B lb cb], .int .i64 x] w fun e' w' => e' = .returned (.int .i64 z) ∧ Below w.heap.size w w' := by
  subst hz
  exact suord_any n o A B la ca lb cb X Y x w h.hX h.hY h.hla h.hlb h.hca h.hcb
theorem c_kinds (h : RIn w A la ca B lb cb X Y) (x : Int) (z : ByteArray) (hz : kindsV n o X Y x = z) : Calls Try.prog 80 #[.agg #[.int .i64 n, .int .i64 o, .slice A la ca, .slice B lb cb], .int .i64 x] w fun e' w' => e' = .returned (.string z) ∧ Below w.heap.size w w' := by
  subst hz
  exact kinds_any n o A B la ca lb cb X Y x w h.hX h.hY h.hla h.hlb h.hca h.hcb
theorem cs_kinds (h : RIn w A la ca B lb cb X Y) (x : Int) (z : ByteArray) (hz : kindsV n o X Y x = z) : Calls Try.prog 82 #[.agg #[.int .i64 n, .int .i64 o, .slice A la ca, .slice B lb cb], .int .i64 x] w fun e' w' => e' = .returned (.string z) ∧ Below w.heap.size w w' := by
  subst hz
  exact skinds_any n o A B la ca lb cb X Y x w h.hX h.hY h.hla h.hlb h.hca h.hcb
theorem c_field (h : RIn w A la ca B lb cb X Y) (z : Bool) (hz : fieldV n o X Y = z) : Calls Try.prog 64 #[.agg #[.int .i64 n, .int .i64 o, .slice A la ca, .slice B lb cb]] w fun e' w' => e' = .returned (.bool z) ∧ Below w.heap.size w w' := by
  subst hz
  exact isField_any n o A B la ca lb cb X Y  w h.hX h.hY h.hla h.hlb h.hca h.hcb
theorem cs_field (h : RIn w A la ca B lb cb X Y) (hn1 : n ≤ 9223372036854775807) (z : Bool) (hz : fieldV n o X Y = z) : Calls Try.prog 65 #[.agg #[.int .i64 n, .int .i64 o, .slice A la ca, .slice B lb cb]] w fun e' w' => e' = .returned (.bool z) ∧ Below w.heap.size w w' := by
  subst hz
  exact sisField_any n o A B la ca lb cb X Y  w h.hX h.hY h.hla h.hlb h.hca h.hcb hn1
theorem c_kind0 (h : RIn w A la ca B lb cb X Y) (Z : List Int) (hz : kindsL n o X Y 0 = Z) : Calls Try.prog 60 #[.agg #[.int .i64 n, .int .i64 o, .slice A la ca, .slice B lb cb]] w fun e' w' => ∃ v, e' = .returned v ∧ SliceOut w.heap.size w' v Z ∧ Below w.heap.size w w' := by
  subst hz
  exact kind0_any n o A B la ca lb cb X Y  w h.hX h.hY h.hla h.hlb h.hca h.hcb
theorem cs_kind0 (h : RIn w A la ca B lb cb X Y) (Z : List Int) (hz : kindsL n o X Y 0 = Z) : Calls Try.prog 62 #[.agg #[.int .i64 n, .int .i64 o, .slice A la ca, .slice B lb cb]] w fun e' w' => ∃ v, e' = .returned v ∧ SliceOut w.heap.size w' v Z ∧ Below w.heap.size w w' := by
  subst hz
  exact skind0_any n o A B la ca lb cb X Y  w h.hX h.hY h.hla h.hlb h.hca h.hcb
theorem c_kind1 (h : RIn w A la ca B lb cb X Y) (Z : List Int) (hz : kindsL n o X Y 1 = Z) : Calls Try.prog 61 #[.agg #[.int .i64 n, .int .i64 o, .slice A la ca, .slice B lb cb]] w fun e' w' => ∃ v, e' = .returned v ∧ SliceOut w.heap.size w' v Z ∧ Below w.heap.size w w' := by
  subst hz
  exact kind1_any n o A B la ca lb cb X Y  w h.hX h.hY h.hla h.hlb h.hca h.hcb
theorem cs_kind1 (h : RIn w A la ca B lb cb X Y) (Z : List Int) (hz : kindsL n o X Y 1 = Z) : Calls Try.prog 63 #[.agg #[.int .i64 n, .int .i64 o, .slice A la ca, .slice B lb cb]] w fun e' w' => ∃ v, e' = .returned v ∧ SliceOut w.heap.size w' v Z ∧ Below w.heap.size w w' := by
  subst hz
  exact skind1_any n o A B la ca lb cb X Y  w h.hX h.hY h.hla h.hlb h.hca h.hcb
theorem c_kind2 (h : RIn w A la ca B lb cb X Y) (Z : List Int) (hz : kindsL n o X Y 2 = Z) : Calls Try.prog 72 #[.agg #[.int .i64 n, .int .i64 o, .slice A la ca, .slice B lb cb]] w fun e' w' => ∃ v, e' = .returned v ∧ SliceOut w.heap.size w' v Z ∧ Below w.heap.size w w' := by
  subst hz
  exact kind2_any n o A B la ca lb cb X Y  w h.hX h.hY h.hla h.hlb h.hca h.hcb
theorem cs_kind2 (h : RIn w A la ca B lb cb X Y) (Z : List Int) (hz : kindsL n o X Y 2 = Z) : Calls Try.prog 73 #[.agg #[.int .i64 n, .int .i64 o, .slice A la ca, .slice B lb cb]] w fun e' w' => ∃ v, e' = .returned v ∧ SliceOut w.heap.size w' v Z ∧ Below w.heap.size w w' := by
  subst hz
  exact skind2_any n o A B la ca lb cb X Y  w h.hX h.hY h.hla h.hlb h.hca h.hcb
theorem c_kind3 (h : RIn w A la ca B lb cb X Y) (Z : List Int) (hz : kindsL n o X Y 3 = Z) : Calls Try.prog 75 #[.agg #[.int .i64 n, .int .i64 o, .slice A la ca, .slice B lb cb]] w fun e' w' => ∃ v, e' = .returned v ∧ SliceOut w.heap.size w' v Z ∧ Below w.heap.size w w' := by
  subst hz
  exact kind3_any n o A B la ca lb cb X Y  w h.hX h.hY h.hla h.hlb h.hca h.hcb
theorem cs_kind3 (h : RIn w A la ca B lb cb X Y) (Z : List Int) (hz : kindsL n o X Y 3 = Z) : Calls Try.prog 76 #[.agg #[.int .i64 n, .int .i64 o, .slice A la ca, .slice B lb cb]] w fun e' w' => ∃ v, e' = .returned v ∧ SliceOut w.heap.size w' v Z ∧ Below w.heap.size w w' := by
  subst hz
  exact skind3_any n o A B la ca lb cb X Y  w h.hX h.hY h.hla h.hlb h.hca h.hcb
theorem c_assoc (h : RIn w A la ca B lb cb X Y) (x : Int) (Z : List Int) (hz : assocL n o X Y x = Z) : Calls Try.prog 85 #[.agg #[.int .i64 n, .int .i64 o, .slice A la ca, .slice B lb cb], .int .i64 x] w fun e' w' => ∃ v, e' = .returned v ∧ SliceOut w.heap.size w' v Z ∧ Below w.heap.size w w' := by
  subst hz
  exact assoc_any n o A B la ca lb cb X Y x w h.hX h.hY h.hla h.hlb h.hca h.hcb
theorem cs_assoc (h : RIn w A la ca B lb cb X Y) (x : Int) (Z : List Int) (hz : assocL n o X Y x = Z) : Calls Try.prog 86 #[.agg #[.int .i64 n, .int .i64 o, .slice A la ca, .slice B lb cb], .int .i64 x] w fun e' w' => ∃ v, e' = .returned v ∧ SliceOut w.heap.size w' v Z ∧ Below w.heap.size w w' := by
  subst hz
  exact sassoc_any n o A B la ca lb cb X Y x w h.hX h.hY h.hla h.hlb h.hca h.hcb
end

section
variable {m e : Nat} {X Y : List Int}
theorem v_inv (hv : validB m e X Y = true) {a c : Nat} (ha : a < m) (hc : c < m) (h : tabOf Y (a * m + c) = e) {x z : Int} (hx : x = a) (hz : z = c) : invV m e X Y x = z := by
  subst hx hz
  rw [invV_yes hv (inB_nat ha)]
  exact (rtab_of_valid hv).inv_eq ha hc h
theorem v_uord (hv : validB m e X Y = true) {a c d : Nat} (ha : a < m) (hc : c < m) (h : tabOf Y (a * m + c) = e) (hd : ordZ m (tabOf Y) e a = d) {x z : Int} (hx : x = a) (hz : z = d) : uordV m e X Y x = z := by
  subst hx hz hd
  refine uordV_yes ?_
  rw [v_inv hv ha hc h rfl rfl]
  omega
theorem v_sord (hv : validB m e X Y = true) {a d : Nat} (ha : a < m) (hd : ordN m (tabOf X) a = d) {x z : Int} (hx : x = a) (hz : z = d) : ordV m e X Y x = z := by
  subst hx hz hd
  exact ordV_yes hv (inB_nat ha)
theorem idx_cases (xs : List Int) (v : Int) : idx xs v = -1 ∨ 0 ≤ idx xs v := by
  unfold idx
  split
  · right; omega
  · left; rfl
/-- Either there is no inverse, or the ring is valid and there is one. -/
theorem inv_cases {n o a : Int} {X Y : List Int} : invV n o X Y a = -1 ∨ (validB n o X Y = true ∧ inB n a = true ∧ 0 ≤ invV n o X Y a) := by
  by_cases h : validB n o X Y = true ∧ inB n a = true
  · have e : invV n o X Y a = invN n.toNat (tabOf Y) o.toNat a.toNat := ifV_yes h
    rcases idx_cases (rowL n.toNat (tabOf Y) a.toNat) o.toNat with h1 | h1
    · exact .inl (e.trans h1)
    · exact .inr ⟨h.1, h.2, by rw [e]; exact h1⟩
  · exact .inl (invV_no h)
end

end Go.Proofs.Ytpideooccccfgaa


/- Drawn laws: regions in which calls hand back lists, and tests of lists. -/
namespace Go.Proofs.Ytpideooccccfgaa
open Go.RowKit
set_option maxRecDepth 100000

/-- What calls that hand back lists hand back, and tests of them. -/
structure LmPhi (D : Nat) (L : Nat → Bool) (Z : Nat → List Int) (N : Nat → Nat) (B : Nat → Bool) (i : Nat) (v : Value) (w : World) : Prop where
  l : L i = true → SliceOut D w v (Z i) ∧ (Z i).length = N i
  b : L i = false → v = .bool (B i)
structure LmSh (L : Nat → Bool) (N : Nat → Nat) (B : Nat → Bool) (i : Nat) (v : Value) : Prop where
  l : L i = true → ∃ A c, v = .slice A (N i) c
  b : L i = false → v = .bool (B i)
section
variable {D : Nat} {L : Nat → Bool} {Z : Nat → List Int} {N : Nat → Nat} {B : Nat → Bool} {i : Nat} {v : Value}
theorem LmPhi.next {w w' : World} (h : LmPhi D L Z N B i v w) (hb : Below w.heap.size w w') : LmPhi D L Z N B i v w' := ⟨fun e => ⟨(h.l e).1.next hb, (h.l e).2⟩, h.b⟩
theorem LmPhi.sh {w : World} (h : LmPhi D L Z N B i v w) : LmSh L N B i v := ⟨fun e => by
  obtain ⟨⟨A, l, c, e1, h1, _⟩, h2⟩ := h.l e
  exact ⟨A, c, by rw [e1, ← h2, h1.1]⟩, h.b⟩
def lmV0 (L : Nat → Bool) (N : Nat → Nat) (B : Nat → Bool) (i : Nat) : Value := bif L i then .slice none (N i) 0 else .bool (B i)
theorem lmSh0 : LmSh L N B i (lmV0 L N B i) := ⟨fun e => ⟨none, 0, by unfold lmV0; rw [e]; rfl⟩, fun e => by unfold lmV0; rw [e]; rfl⟩
end
theorem SliceOut.len {D : Nat} {w : World} {v : Value} {Z : List Int} (h : SliceOut D w v Z) : ∃ A c, v = .slice A Z.length c ∧ Ints w w.heap.size A Z.length Z ∧ Z.length ≤ c ∧ Z.length ≤ 1048570 := by
  obtain ⟨A, l, c, e, h1, h2, h3⟩ := h
  rw [h1.1]
  exact ⟨A, c, e, h1.ints, h2, h3⟩
theorem SliceOut.at_ {D n c : Nat} {A : Option Addr} {w : World} {Z : List Int} (h : SliceOut D w (.slice A n c) Z) : Ints w w.heap.size A n Z ∧ n ≤ c ∧ n ≤ 1048570 := by
  obtain ⟨A', l, c', e, h1, h2, h3⟩ := h
  injection e with e1 e2 e3
  subst e1 e2 e3
  exact ⟨h1.ints, h2, h3⟩
theorem frSame_is {A B : Option Addr} {n k ca cb : Nat} {xs ys : List Int} {w : World} (hA : Ints w w.heap.size A n xs) (hB : Ints w w.heap.size B k ys) (hn : n ≤ 1048570) (hk : k ≤ 1048570) (z : Bool) (hz : eqL xs ys = z) :
    Calls Try.prog 52 #[.slice A n ca, .slice B k cb] w fun e w' => e = .returned (.bool z) ∧ Below w.heap.size w w' := by
  subst hz
  exact frSame_any A B n k ca cb xs ys w _ _ hA hB (by omega) (by omega)
theorem SliceOut.as {D n : Nat} {w : World} {v : Value} {Z : List Int} (h : SliceOut D w v Z) (hn : Z.length = n) : ∃ A c, v = .slice A n c ∧ SliceOut D w (.slice A n c) Z := by
  obtain ⟨A, l, c, e, h1, h2, h3⟩ := h
  have e2 : l = n := by rw [← hn, h1.1]
  subst e e2
  exact ⟨A, c, rfl, A, l, c, rfl, h1, h2, h3⟩
/-- What stands in a list of chosen elements. -/
theorem sel_get {m j : Nat} {p : Nat → Bool} (h : j < (selTo m p m).length) : ∃ b, b < m ∧ p b = true ∧ (finI (selTo m p m))[j]?.getD 0 = (b : Int) := by
  have h1 := (selTo_in m (Nat.le_refl _)).1 (List.getElem_mem h)
  exact ⟨_, h1.1, h1.2, finI_get_val h⟩
theorem eqL_self {xs : List Int} : eqL xs xs = true := eqL_true rfl fun _ _ => rfl

section
variable {m e a : Nat} {P : Nat → Nat}
theorem kindTo_pre (k : Nat) : kindTo m P e a k <+: kindTo m P e a (k + 1) := by
  cases h : kindB m P e k a
  · rw [kindTo_no h]; exact List.prefix_rfl
  · rw [kindTo_yes h]; exact List.prefix_append _ _
theorem kind_unit (h : unitB m P e a = true) : ∃ t, kindTo m P e a 4 = 117 :: t := by
  have h1 : kindTo m P e a 1 = [117] := kindTo_yes (k := 0) h
  obtain ⟨t, ht⟩ := (kindTo_pre (m := m) (P := P) (e := e) (a := a) 1).trans ((kindTo_pre 2).trans (kindTo_pre 3))
  exact ⟨t, by rw [← ht, h1]; rfl⟩
theorem kind_div (h : unitB m P e a = false) (hd : divB m P a = true) : ∃ t, kindTo m P e a 4 = 100 :: t := by
  have h1 : kindTo m P e a 1 = [] := kindTo_no (k := 0) h
  have h2 : kindTo m P e a 2 = [100] := by rw [kindTo_yes (k := 1) hd, h1]; rfl
  obtain ⟨t, ht⟩ := (kindTo_pre (m := m) (P := P) (e := e) (a := a) 2).trans (kindTo_pre 3)
  exact ⟨t, by rw [← ht, h2]; rfl⟩
end

end Go.Proofs.Ytpideooccccfgaa
