/- Lists that are the same: the library's Equal, l1Same; SameRing of both sides. -/
import Derived.Test.YtplligjoegjngaaB4
namespace Go.Proofs.Ytplligjoegjngaa
open Go.RowKit

theorem Blk.next {w w' : World} {g : Nat} {t : TypeId} {cs : Array Value} (h : Blk w g t cs) (hb : Below w.heap.size w w') : Blk w' g t cs := h.below hb h.lt
theorem blk4 {w : World} {g : Nat} {t : TypeId} {a b c d : Value} (h : Blk w g t #[a, b, c, d]) : w.cell? ⟨g, 0, none⟩ = some a ∧ w.cell? ⟨g, 1, none⟩ = some b ∧ w.cell? ⟨g, 2, none⟩ = some c ∧ w.cell? ⟨g, 3, none⟩ = some d :=
  ⟨h.cell 0, h.cell 1, h.cell 2, h.cell 3⟩
theorem below_step {w w1 w2 : World} (h : Below w.heap.size w w1) (hb : Below w1.heap.size w1 w2) : Below w.heap.size w w2 := h.trans (hb.mono h.size)

def eqL (xs ys : List Int) : Bool := decide (xs = ys)
def AlikeTo (xs ys : List Int) (k : Nat) : Prop := ∀ j, j < k → xs[j]?.getD 0 = ys[j]?.getD 0
theorem eqL_true {xs ys : List Int} (hl : xs.length = ys.length) (h : AlikeTo xs ys xs.length) : eqL xs ys = true := by
  refine decide_eq_true (List.ext_getElem hl fun j h1 h2 => ?_)
  have := h j h1
  rw [List.getElem?_eq_getElem h1, List.getElem?_eq_getElem h2] at this
  exact this
theorem eqL_false {xs ys : List Int} {k : Nat} (h : ¬ xs[k]?.getD 0 = ys[k]?.getD 0) : eqL xs ys = false := decide_eq_false fun e => h (by rw [e])
theorem eqL_len {xs ys : List Int} (h : xs.length ≠ ys.length) : eqL xs ys = false := decide_eq_false fun e => h (by rw [e])

set_option maxHeartbeats 1000000 in
theorem slEqual_any (A B : Option Addr) (n k ca cb : Nat) (xs ys : List Int) (w : World) (C D : Nat) (hA : Ints w C A n xs) (hB : Ints w D B k ys) (hn : n ≤ 9223372036854775807) :
    Calls Try.prog 139 #[.slice A n ca, .slice B k cb] w fun e w' => e = .returned (.bool (eqL xs ys)) ∧ Below w.heap.size w w' := by
  have HA := Lib.hid hA
  have HB := Lib.hid hB
  clear hA hB
  by_cases hl : n = k
  · subst hl
    go_enter Try.func139, Try.ntmps139
    go_wp2
    go_loopw [13] (fun i wr => ∃ j : Nat, j ≤ n ∧ i = .int .i64 j ∧ AlikeTo xs ys j ∧ ∃ d : Nat, wr = w.drewN d) (fun i _ => n - (intOf i).toNat)
    case atStart => exact ⟨0, Nat.zero_le _, rfl, fun j hj => absurd hj (by omega), 0, rfl⟩
    case round =>
      obtain ⟨j, hj, rfl, hup, d, rfl⟩ := hrel
      have HU := Lib.hid hup
      clear hup
      by_cases hlt : j < n
      · obtain ⟨b1, o1, rfl, _, hc1⟩ := HA.out.at_ hlt
        obtain ⟨b2, o2, rfl, _, hc2⟩ := HB.out.at_ hlt
        by_cases he : xs[j]?.getD 0 = ys[j]?.getD 0
        · have HE := Lib.hid he
          have te : (xs[j]?.getD 0 != ys[j]?.getD 0) = false := by rw [bne_eq_false_iff_eq]; exact he
          have t1 : xs[j]?.getD 0 ≤ ys[j]?.getD 0 := by omega
          have t2 : ys[j]?.getD 0 ≤ xs[j]?.getD 0 := by omega
          clear he
          go_wp2
          go_quiet (fail)
          go_wp2
          go_roundw
          case rel => exact ⟨j + 1, by omega, by go_num, forall_succ HU.out HE.out, _, rfl⟩
          case measure => simp [intOf]; omega
        · have HE := Lib.hid he
          have te : (xs[j]?.getD 0 != ys[j]?.getD 0) = true := by rw [bne_iff_ne]; exact he
          clear he
          go_wp2
          go_quiet (fail)
          go_wp2
          go_ret
          exact ⟨ret_bool (eqL_false HE.out).symm, below_drewN (below_drewN (Below.refl _ _) _) _⟩
      · go_wp2
        go_ret
        exact ⟨ret_bool (eqL_true (by rw [HA.out.1, HB.out.1]) fun i hi => HU.out i (by rw [HA.out.1] at hi; omega)).symm, below_drewN (Below.refl _ _) _⟩
  · have hx := Lib.hid (eqL_len (xs := xs) (ys := ys) (by rw [HA.out.1, HB.out.1]; exact hl))
    go_enter Try.func139, Try.ntmps139
    go_wp2
    go_ret
    exact ⟨ret_bool hx.out.symm, Below.refl _ _⟩

set_option maxHeartbeats 1000000 in
theorem l1Same_any (A B : Option Addr) (n k ca cb : Nat) (xs ys : List Int) (w : World) (C D : Nat) (hA : Ints w C A n xs) (hB : Ints w D B k ys) (hn : n ≤ 9223372036854775807) (hk : k ≤ 9223372036854775807) :
    Calls Try.prog 140 #[.slice A n ca, .slice B k cb] w fun e w' => e = .returned (.bool (eqL xs ys)) ∧ Below w.heap.size w w' := by
  have HA := Lib.hid hA
  have HB := Lib.hid hB
  clear hA hB
  rcases Nat.lt_trichotomy n k with hnk | hnk | hnk
  · have HX := Lib.hid (eqL_len (xs := xs) (ys := ys) (by rw [HA.out.1, HB.out.1]; omega))
    have tt : ((n : Int) == (k : Int)) = false := by rw [beq_eq_false_iff_ne]; omega
    go_enter Try.func140, Try.ntmps140
    go_wp2
    go_loopw [11] (fun i wr => ∃ j : Nat, j ≤ n ∧ i = .int .i64 j ∧ AlikeTo xs ys j ∧ ∃ d : Nat, wr = w.drewN d) (fun i _ => n - (intOf i).toNat)
    case atStart => exact ⟨0, Nat.zero_le _, rfl, fun j hj => absurd hj (by omega), 0, rfl⟩
    case round =>
      obtain ⟨j, hj, rfl, hup, d, rfl⟩ := hrel
      have HU := Lib.hid hup
      clear hup
      by_cases hlt : j < n
      · obtain ⟨b1, o1, rfl, _, hc1⟩ := HA.out.at_ (show j < n by omega)
        obtain ⟨b2, o2, rfl, _, hc2⟩ := HB.out.at_ (show j < k by omega)
        by_cases he : xs[j]?.getD 0 = ys[j]?.getD 0
        · have HE := Lib.hid he
          have te : (xs[j]?.getD 0 != ys[j]?.getD 0) = false := by rw [bne_eq_false_iff_eq]; exact he
          have t1 : xs[j]?.getD 0 ≤ ys[j]?.getD 0 := by omega
          have t2 : ys[j]?.getD 0 ≤ xs[j]?.getD 0 := by omega
          clear he
          go_wp2
          go_quiet (fail)
          go_wp2
          go_roundw
          case rel => exact ⟨j + 1, by omega, by go_num, forall_succ HU.out HE.out, _, rfl⟩
          case measure => simp [intOf]; omega
        · have HE := Lib.hid he
          have te : (xs[j]?.getD 0 != ys[j]?.getD 0) = true := by rw [bne_iff_ne]; exact he
          clear he
          go_wp2
          go_quiet (fail)
          go_wp2
          go_ret
          exact ⟨ret_bool (eqL_false HE.out).symm, below_drewN (below_drewN (Below.refl _ _) _) _⟩
      · go_wp2
        go_ret
        exact ⟨ret_bool (HX.out).symm, below_drewN (Below.refl _ _) _⟩
  · subst hnk
    go_enter Try.func140, Try.ntmps140
    go_wp2
    go_loopw [11] (fun i wr => ∃ j : Nat, j ≤ n ∧ i = .int .i64 j ∧ AlikeTo xs ys j ∧ ∃ d : Nat, wr = w.drewN d) (fun i _ => n - (intOf i).toNat)
    case atStart => exact ⟨0, Nat.zero_le _, rfl, fun j hj => absurd hj (by omega), 0, rfl⟩
    case round =>
      obtain ⟨j, hj, rfl, hup, d, rfl⟩ := hrel
      have HU := Lib.hid hup
      clear hup
      by_cases hlt : j < n
      · obtain ⟨b1, o1, rfl, _, hc1⟩ := HA.out.at_ (show j < n by omega)
        obtain ⟨b2, o2, rfl, _, hc2⟩ := HB.out.at_ (show j < n by omega)
        by_cases he : xs[j]?.getD 0 = ys[j]?.getD 0
        · have HE := Lib.hid he
          have te : (xs[j]?.getD 0 != ys[j]?.getD 0) = false := by rw [bne_eq_false_iff_eq]; exact he
          have t1 : xs[j]?.getD 0 ≤ ys[j]?.getD 0 := by omega
          have t2 : ys[j]?.getD 0 ≤ xs[j]?.getD 0 := by omega
          clear he
          go_wp2
          go_quiet (fail)
          go_wp2
          go_roundw
          case rel => exact ⟨j + 1, by omega, by go_num, forall_succ HU.out HE.out, _, rfl⟩
          case measure => simp [intOf]; omega
        · have HE := Lib.hid he
          have te : (xs[j]?.getD 0 != ys[j]?.getD 0) = true := by rw [bne_iff_ne]; exact he
          clear he
          go_wp2
          go_quiet (fail)
          go_wp2
          go_ret
          exact ⟨ret_bool (eqL_false HE.out).symm, below_drewN (below_drewN (Below.refl _ _) _) _⟩
      · go_wp2
        go_ret
        exact ⟨ret_bool (eqL_true (by rw [HA.out.1, HB.out.1]) fun i hi => HU.out i (by rw [HA.out.1] at hi; omega)).symm, below_drewN (Below.refl _ _) _⟩
  · have HX := Lib.hid (eqL_len (xs := xs) (ys := ys) (by rw [HA.out.1, HB.out.1]; omega))
    have tt : ((n : Int) == (k : Int)) = false := by rw [beq_eq_false_iff_ne]; omega
    go_enter Try.func140, Try.ntmps140
    go_wp2
    go_loopw [11] (fun i wr => ∃ j : Nat, j ≤ k ∧ i = .int .i64 j ∧ AlikeTo xs ys j ∧ ∃ d : Nat, wr = w.drewN d) (fun i _ => k - (intOf i).toNat)
    case atStart => exact ⟨0, Nat.zero_le _, rfl, fun j hj => absurd hj (by omega), 0, rfl⟩
    case round =>
      obtain ⟨j, hj, rfl, hup, d, rfl⟩ := hrel
      have HU := Lib.hid hup
      clear hup
      by_cases hlt : j < k
      · obtain ⟨b1, o1, rfl, _, hc1⟩ := HA.out.at_ (show j < n by omega)
        obtain ⟨b2, o2, rfl, _, hc2⟩ := HB.out.at_ (show j < k by omega)
        by_cases he : xs[j]?.getD 0 = ys[j]?.getD 0
        · have HE := Lib.hid he
          have te : (xs[j]?.getD 0 != ys[j]?.getD 0) = false := by rw [bne_eq_false_iff_eq]; exact he
          have t1 : xs[j]?.getD 0 ≤ ys[j]?.getD 0 := by omega
          have t2 : ys[j]?.getD 0 ≤ xs[j]?.getD 0 := by omega
          clear he
          go_wp2
          go_quiet (fail)
          go_wp2
          go_roundw
          case rel => exact ⟨j + 1, by omega, by go_num, forall_succ HU.out HE.out, _, rfl⟩
          case measure => simp [intOf]; omega
        · have HE := Lib.hid he
          have te : (xs[j]?.getD 0 != ys[j]?.getD 0) = true := by rw [bne_iff_ne]; exact he
          clear he
          go_wp2
          go_quiet (fail)
          go_wp2
          go_ret
          exact ⟨ret_bool (eqL_false HE.out).symm, below_drewN (below_drewN (Below.refl _ _) _) _⟩
      · go_wp2
        go_ret
        exact ⟨ret_bool (HX.out).symm, below_drewN (Below.refl _ _) _⟩

/-- Two rings are the same. -/
def sameB (n o : Int) (X Y : List Int) (n' o' : Int) (X' Y' : List Int) : Bool := eq4 n o X.length Y.length n' o' X'.length Y'.length && (eqL X X' && eqL Y Y')
theorem sameB_eq {n o n' o' : Int} {X Y X' Y' : List Int} : sameB n o X Y n' o' X' Y' = (n == n' && (o == o' && (eqL X X' && eqL Y Y'))) := by
  unfold sameB eq4
  cases h1 : eqL X X'
  · simp
  · cases h2 : eqL Y Y'
    · simp
    · have e1 := of_decide_eq_true h1
      have e2 := of_decide_eq_true h2
      subst e1; subst e2
      simp

attribute [local go_sem] eq_shape

set_option maxHeartbeats 2000000 in
theorem same_any (n o n' o' : Int) (A B A' B' : Option Addr) (la ca lb cb la' ca' lb' cb' : Nat) (X Y X' Y' : List Int) (w : World) (hA : Ints w w.heap.size A la X) (hB : Ints w w.heap.size B lb Y) (hA' : Ints w w.heap.size A' la' X') (hB' : Ints w w.heap.size B' lb' Y')
    (hla : la ≤ 9223372036854775807) (hlb : lb ≤ 9223372036854775807) :
    Calls Try.prog 69 #[.agg #[.int .i64 n, .int .i64 o, .slice A la ca, .slice B lb cb], .agg #[.int .i64 n', .int .i64 o', .slice A' la' ca', .slice B' lb' cb']] w fun e w' => e = .returned (.bool (sameB n o X Y n' o' X' Y')) ∧ Below w.heap.size w w' := by
  have hl1 := hA.1
  have hl2 := hB.1
  have hl3 := hA'.1
  have hl4 := hB'.1
  obtain ⟨W, hW⟩ : ∃ W, (w.alloc (.cells #[.int .i64 n, .int .i64 o, .slice A la ca, .slice B lb cb] 24)).alloc (.cells #[.int .i64 n', .int .i64 o', .slice A' la' ca', .slice B' lb' cb'] 24) = W := ⟨_, rfl⟩
  have k0 : Blk W w.heap.size 24 #[.int .i64 n, .int .i64 o, .slice A la ca, .slice B lb cb] := by
    subst hW; exact (Blk.new w _ _).alloc _
  have k1 : Blk W (w.heap.size + 1) 24 #[.int .i64 n', .int .i64 o', .slice A' la' ca', .slice B' lb' cb'] := by
    subst hW; simpa using Blk.new (w.alloc (.cells #[.int .i64 n, .int .i64 o, .slice A la ca, .slice B lb cb] 24)) 24 #[.int .i64 n', .int .i64 o', .slice A' la' ca', .slice B' lb' cb']
  have b0 : Below w.heap.size w W := by
    subst hW; exact ((Below.refl _ _).alloc (Nat.le_refl _) _).alloc (by simp) _
  obtain ⟨c0, c1, c2, c3⟩ := blk4 k0
  obtain ⟨d0, d1, d2, d3⟩ := blk4 k1
  have H1 := Lib.hid (hA.next b0)
  have H2 := Lib.hid (hB.next b0)
  have H3 := Lib.hid (hA'.next b0)
  have H4 := Lib.hid (hB'.next b0)
  have B0 := Lib.hid b0
  have HW := Lib.hid hW
  have HV := Lib.hid (show sameB n o X Y n' o' X' Y' = (eq4 n o la lb n' o' la' lb' && (eqL X X' && eqL Y Y')) by unfold sameB; rw [hl1, hl2, hl3, hl4])
  clear hA hB hA' hB' k0 k1 b0 hW hl1 hl2 hl3 hl4
  cases q1 : eq4 n o la lb n' o' la' lb'
  · go_enter Try.func69, Try.ntmps69
    go_wp2
    rw [HW.out]
    refine wp_region_ext (by kernel_rfl) (by kernel_rfl) ?_
    repeat (go_big_quiet_step ((first
      | (go_at_call 138; ((with_reducible refine calls_ext (shape_any n o A B la ca lb cb _))))
      | (go_at_call 138; ((with_reducible refine calls_ext (shape_any n' o' A' B' la' ca' lb' cb' _))))
      | (go_at_call 139; ((with_reducible refine calls_ext (slEqual_any A A' la la' ca ca' X X' _ _ _ (H1.out.ext (Nat.le_refl _) _) (H3.out.ext (Nat.le_refl _) _) hla))))
      | (go_at_call 139; ((with_reducible refine calls_ext (slEqual_any B B' lb lb' cb cb' Y Y' _ _ _ (H2.out.ext (Nat.le_refl _) _) (H4.out.ext (Nat.le_refl _) _) hlb)))))))
    refine wpQuiet_nil ?_
    intro w2 hb2
    go_wp2
    go_ret
    exact ⟨ret_bool (by rw [HV.out, q1]; rfl), B0.out.trans (hb2.mono B0.out.size)⟩
  · cases q2 : eqL X X'
    · go_enter Try.func69, Try.ntmps69
      go_wp2
      rw [HW.out]
      refine wp_region_ext (by kernel_rfl) (by kernel_rfl) ?_
      repeat (go_big_quiet_step ((first
        | (go_at_call 138; ((with_reducible refine calls_ext (shape_any n o A B la ca lb cb _))))
        | (go_at_call 138; ((with_reducible refine calls_ext (shape_any n' o' A' B' la' ca' lb' cb' _))))
        | (go_at_call 139; ((with_reducible refine calls_ext (slEqual_any A A' la la' ca ca' X X' _ _ _ (H1.out.ext (Nat.le_refl _) _) (H3.out.ext (Nat.le_refl _) _) hla))))
        | (go_at_call 139; ((with_reducible refine calls_ext (slEqual_any B B' lb lb' cb cb' Y Y' _ _ _ (H2.out.ext (Nat.le_refl _) _) (H4.out.ext (Nat.le_refl _) _) hlb)))))))
      refine wpQuiet_nil ?_
      intro w2 hb2
      go_wp2
      go_ret
      exact ⟨ret_bool (by rw [HV.out, q1, q2]; rfl), B0.out.trans (hb2.mono B0.out.size)⟩
    · go_enter Try.func69, Try.ntmps69
      go_wp2
      rw [HW.out]
      refine wp_region_ext (by kernel_rfl) (by kernel_rfl) ?_
      repeat (go_big_quiet_step ((first
        | (go_at_call 138; ((with_reducible refine calls_ext (shape_any n o A B la ca lb cb _))))
        | (go_at_call 138; ((with_reducible refine calls_ext (shape_any n' o' A' B' la' ca' lb' cb' _))))
        | (go_at_call 139; ((with_reducible refine calls_ext (slEqual_any A A' la la' ca ca' X X' _ _ _ (H1.out.ext (Nat.le_refl _) _) (H3.out.ext (Nat.le_refl _) _) hla))))
        | (go_at_call 139; ((with_reducible refine calls_ext (slEqual_any B B' lb lb' cb cb' Y Y' _ _ _ (H2.out.ext (Nat.le_refl _) _) (H4.out.ext (Nat.le_refl _) _) hlb)))))))
      refine wpQuiet_nil ?_
      intro w2 hb2
      go_wp2
      go_ret
      exact ⟨ret_bool (by rw [HV.out, q1, q2]; rfl), B0.out.trans (hb2.mono B0.out.size)⟩

set_option maxHeartbeats 2000000 in
theorem ssame_any (n o n' o' : Int) (A B A' B' : Option Addr) (la ca lb cb la' ca' lb' cb' : Nat) (X Y X' Y' : List Int) (w : World) (hA : Ints w w.heap.size A la X) (hB : Ints w w.heap.size B lb Y) (hA' : Ints w w.heap.size A' la' X') (hB' : Ints w w.heap.size B' lb' Y')
    (hla : la ≤ 9223372036854775807) (hlb : lb ≤ 9223372036854775807) (hla' : la' ≤ 9223372036854775807) (hlb' : lb' ≤ 9223372036854775807) :
    Calls Try.prog 70 #[.agg #[.int .i64 n, .int .i64 o, .slice A la ca, .slice B lb cb], .agg #[.int .i64 n', .int .i64 o', .slice A' la' ca', .slice B' lb' cb']] w fun e w' => e = .returned (.bool (sameB n o X Y n' o' X' Y')) ∧ Below w.heap.size w w' := by
  obtain ⟨W, hW⟩ : ∃ W, (w.alloc (.cells #[.int .i64 n, .int .i64 o, .slice A la ca, .slice B lb cb] 24)).alloc (.cells #[.int .i64 n', .int .i64 o', .slice A' la' ca', .slice B' lb' cb'] 24) = W := ⟨_, rfl⟩
  have k0 : Blk W w.heap.size 24 #[.int .i64 n, .int .i64 o, .slice A la ca, .slice B lb cb] := by
    subst hW; exact (Blk.new w _ _).alloc _
  have k1 : Blk W (w.heap.size + 1) 24 #[.int .i64 n', .int .i64 o', .slice A' la' ca', .slice B' lb' cb'] := by
    subst hW; simpa using Blk.new (w.alloc (.cells #[.int .i64 n, .int .i64 o, .slice A la ca, .slice B lb cb] 24)) 24 #[.int .i64 n', .int .i64 o', .slice A' la' ca', .slice B' lb' cb']
  have b0 : Below w.heap.size w W := by
    subst hW; exact ((Below.refl _ _).alloc (Nat.le_refl _) _).alloc (by simp) _
  obtain ⟨c0, c1, c2, c3⟩ := blk4 k0
  obtain ⟨d0, d1, d2, d3⟩ := blk4 k1
  have K0 := Lib.hid k0
  have K1 := Lib.hid k1
  have H1 := Lib.hid (hA.next b0)
  have H2 := Lib.hid (hB.next b0)
  have H3 := Lib.hid (hA'.next b0)
  have H4 := Lib.hid (hB'.next b0)
  have B0 := Lib.hid b0
  have HW := Lib.hid hW
  have HV := Lib.hid (sameB_eq (n := n) (o := o) (X := X) (Y := Y) (n' := n') (o' := o') (X' := X') (Y' := Y'))
  clear hA hB hA' hB' k0 k1 b0 hW
  cases q1 : (n == n')
  · go_enter Try.func70, Try.ntmps70
    go_wp2_with (fail)
    go_ret
    exact ⟨ret_bool (by rw [HV.out, q1]; rfl), by rw [HW.out]; exact B0.out⟩
  · cases q2 : (o == o')
    · go_enter Try.func70, Try.ntmps70
      go_wp2_with (fail)
      go_ret
      exact ⟨ret_bool (by rw [HV.out, q1, q2]; rfl), by rw [HW.out]; exact B0.out⟩
    · cases q3 : eqL X X'
      · go_enter Try.func70, Try.ntmps70
        go_wp2_with (fail)
        rw [HW.out]
        go_wp2_with (first
          | (go_at_call 140; ((with_reducible refine (l1Same_any A A' la la' ca ca' X X' _ _ _ H1.out H3.out hla hla').mono ?_); rintro e1 w1 ⟨rfl, hb1⟩; obtain ⟨f0, f1, f2, f3⟩ := blk4 (K0.out.next hb1); obtain ⟨g0, g1, g2, g3⟩ := blk4 (K1.out.next hb1); have B1 := Lib.hid hb1; clear hb1))
          | (go_at_call 140; ((with_reducible refine (l1Same_any B B' lb lb' cb cb' Y Y' _ _ _ (H2.out.next B1.out) (H4.out.next B1.out) hlb hlb').mono ?_); rintro e2 w2 ⟨rfl, hb2⟩; have B2 := Lib.hid hb2; clear hb2)))
        go_ret
        exact ⟨ret_bool (by rw [HV.out, q1, q2, q3]; rfl), B0.out.trans (B1.out.mono B0.out.size)⟩
      · go_enter Try.func70, Try.ntmps70
        go_wp2_with (fail)
        rw [HW.out]
        go_wp2_with (first
          | (go_at_call 140; ((with_reducible refine (l1Same_any A A' la la' ca ca' X X' _ _ _ H1.out H3.out hla hla').mono ?_); rintro e1 w1 ⟨rfl, hb1⟩; obtain ⟨f0, f1, f2, f3⟩ := blk4 (K0.out.next hb1); obtain ⟨g0, g1, g2, g3⟩ := blk4 (K1.out.next hb1); have B1 := Lib.hid hb1; clear hb1))
          | (go_at_call 140; ((with_reducible refine (l1Same_any B B' lb lb' cb cb' Y Y' _ _ _ (H2.out.next B1.out) (H4.out.next B1.out) hlb hlb').mono ?_); rintro e2 w2 ⟨rfl, hb2⟩; have B2 := Lib.hid hb2; clear hb2)))
        go_ret
        exact ⟨ret_bool (by rw [HV.out, q1, q2, q3]; rfl), B0.out.trans ((B1.out.mono B0.out.size).trans (B2.out.mono (Nat.le_trans B0.out.size B1.out.size)))⟩

end Go.Proofs.Ytplligjoegjngaa
