
/- The contracts of the reading side's Add and Mul. -/
import Derived.Test.YtpdonhoeimenjaaB3
import Derived.Test.YtpdonhoeimenjaaC1
namespace Go.Proofs.Ytpdonhoeimenjaa
open Go.RowKit

theorem ints_two {w : World} {u v : Int} {T : TypeId} : Ints (w.alloc (.cells #[.int .i64 u, .int .i64 v] T)) (w.heap.size + 1) (some ⟨w.heap.size, 0, none⟩) 2 [u, v] := by
  refine ⟨rfl, fun _ => ⟨_, _, rfl, Nat.lt_succ_self _, fun k x hx => ?_⟩⟩
  rcases k with _ | _ | k
  · simp at hx
    subst hx
    exact cell_of_row _ _ _ _ _ (0, 0) (heap_alloc_new w _)
  · simp at hx
    subst hx
    exact cell_of_row _ _ _ _ _ (0, 0) (heap_alloc_new w _)
  · simp at hx
/-- The bound of l1Elements, of a size. -/
def hiOf (n : Int) : Int := wrap64 (n - 1)
theorem hi_valid {n o : Int} {X Y : List Int} (h : validB n o X Y = true) : hiOf n = n - 1 := by
  unfold validB at h
  rw [Bool.and_eq_true] at h
  obtain ⟨h1, h2, _⟩ := fitsB_iff.1 h.1
  exact wrap_in (by omega) (by omega)
theorem elB_two {n a b : Int} : elB (n - 1) [a, b] = true ↔ inB n a = true ∧ inB n b = true := by
  rw [elB_allB]
  unfold allB
  rw [decide_eq_true_eq]
  constructor
  · intro h; exact ⟨h 0 (by simp), h 1 (by simp)⟩
  · rintro ⟨h1, h2⟩ k hk
    rcases k with _ | _ | k
    · exact h1
    · exact h2
    · simp at hk; omega
set_option maxHeartbeats 2000000 in
theorem sadd_any (n o : Int) (A B : Option Addr) (la ca lb cb : Nat) (X Y : List Int) (a b : Int) (w : World) (hX : Ints w w.heap.size A la X) (hY : Ints w w.heap.size B lb Y) (hla : la ≤ 9223372036854775807) (hlb : lb ≤ 9223372036854775807) (hca : la ≤ ca) (hcb : lb ≤ cb) :
    Calls Try.prog 24 #[.agg #[.int .i64 n, .int .i64 o, .slice A la ca, .slice B lb cb], .int .i64 a, .int .i64 b] w fun e w' => e = .returned (.int .i64 (opV (tabOf X) n o X Y a b)) ∧ Below w.heap.size w w' := by
  have HH := Lib.hid (show wrap64 (n - 1) = hiOf n from rfl)
  cases he : elB (hiOf n) [a, b]
  · have hz := Lib.hid (opV_no (T := tabOf X) (a := a) (b := b) (show ¬ (validB n o X Y = true ∧ inB n a = true ∧ inB n b = true) from fun g => by rw [hi_valid g.1, elB_two.2 g.2] at he; cases he))
    have bA : Below w.heap.size w (w.alloc (.cells #[.int .i64 n, .int .i64 o, .slice A la ca, .slice B lb cb] 25)) := (Below.refl w.heap.size w).alloc (Nat.le_refl _) _
    have bB : Below w.heap.size w ((w.alloc (.cells #[.int .i64 n, .int .i64 o, .slice A la ca, .slice B lb cb] 25)).alloc (.cells #[.int .i64 a, .int .i64 b] 3)) := bA.alloc (by simp) _
    have k0 : Blk ((w.alloc (.cells #[.int .i64 n, .int .i64 o, .slice A la ca, .slice B lb cb] 25)).alloc (.cells #[.int .i64 a, .int .i64 b] 3)) w.heap.size 25 #[.int .i64 n, .int .i64 o, .slice A la ca, .slice B lb cb] := (Blk.new w _ _).alloc _
    have hE : Ints ((w.alloc (.cells #[.int .i64 n, .int .i64 o, .slice A la ca, .slice B lb cb] 25)).alloc (.cells #[.int .i64 a, .int .i64 b] 3)) (w.heap.size + 2) (some ⟨w.heap.size + 1, 0, none⟩) 2 [a, b] := by
      have := ints_two (w := w.alloc (.cells #[.int .i64 n, .int .i64 o, .slice A la ca, .slice B lb cb] 25)) (u := a) (v := b) (T := 3)
      simpa using this
    obtain ⟨W, hW⟩ : ∃ W, (w.alloc (.cells #[.int .i64 n, .int .i64 o, .slice A la ca, .slice B lb cb] 25)).alloc (.cells #[.int .i64 a, .int .i64 b] 3) = W := ⟨_, rfl⟩
    rw [hW] at bB k0 hE
    have HB := Lib.hid bB
    have HE := Lib.hid hE
    have hs := k0.lt
    have c0 := k0.cell 0
    have c1 := k0.cell 1
    have c2 := k0.cell 2
    have c3 := k0.cell 3
    simp at c0 c1 c2 c3
    have H0X := Lib.hid (hX.next HB.out)
    have H0Y := Lib.hid (hY.next HB.out)
    have HW := Lib.hid hW
    clear hW hX hY bA bB k0 hE
    go_enter Try.func24, Try.ntmps24
    go_wp2_with (fail)
    rw [HW.out]
    have X0 := HB
    go_wp2_with (first
      | (go_at_call 90; ((with_reducible refine (l1Elements_any _ _ _ _ _ [a, b] _ _ HH.out HE.out (by omega)).mono ?_); rintro e1 w1 ⟨rfl, rfl⟩)))
    go_ret
    exact ⟨ret_int hz.out.symm, HB.out⟩
  · cases hv : validB n o X Y
    · have hz := Lib.hid (opV_no (T := tabOf X) (a := a) (b := b) (show ¬ (validB n o X Y = true ∧ inB n a = true ∧ inB n b = true) by rw [hv]; simp))
      have bA : Below w.heap.size w (w.alloc (.cells #[.int .i64 n, .int .i64 o, .slice A la ca, .slice B lb cb] 25)) := (Below.refl w.heap.size w).alloc (Nat.le_refl _) _
      have bB : Below w.heap.size w ((w.alloc (.cells #[.int .i64 n, .int .i64 o, .slice A la ca, .slice B lb cb] 25)).alloc (.cells #[.int .i64 a, .int .i64 b] 3)) := bA.alloc (by simp) _
      have k0 : Blk ((w.alloc (.cells #[.int .i64 n, .int .i64 o, .slice A la ca, .slice B lb cb] 25)).alloc (.cells #[.int .i64 a, .int .i64 b] 3)) w.heap.size 25 #[.int .i64 n, .int .i64 o, .slice A la ca, .slice B lb cb] := (Blk.new w _ _).alloc _
      have hE : Ints ((w.alloc (.cells #[.int .i64 n, .int .i64 o, .slice A la ca, .slice B lb cb] 25)).alloc (.cells #[.int .i64 a, .int .i64 b] 3)) (w.heap.size + 2) (some ⟨w.heap.size + 1, 0, none⟩) 2 [a, b] := by
        have := ints_two (w := w.alloc (.cells #[.int .i64 n, .int .i64 o, .slice A la ca, .slice B lb cb] 25)) (u := a) (v := b) (T := 3)
        simpa using this
      obtain ⟨W, hW⟩ : ∃ W, (w.alloc (.cells #[.int .i64 n, .int .i64 o, .slice A la ca, .slice B lb cb] 25)).alloc (.cells #[.int .i64 a, .int .i64 b] 3) = W := ⟨_, rfl⟩
      rw [hW] at bB k0 hE
      have HB := Lib.hid bB
      have HE := Lib.hid hE
      have hs := k0.lt
      have c0 := k0.cell 0
      have c1 := k0.cell 1
      have c2 := k0.cell 2
      have c3 := k0.cell 3
      simp at c0 c1 c2 c3
      have H0X := Lib.hid (hX.next HB.out)
      have H0Y := Lib.hid (hY.next HB.out)
      have HW := Lib.hid hW
      clear hW hX hY bA bB k0 hE
      go_enter Try.func24, Try.ntmps24
      go_wp2_with (fail)
      rw [HW.out]
      have X0 := HB
      go_wp2_with (first
        | (go_at_call 90; ((with_reducible refine (l1Elements_any _ _ _ _ _ [a, b] _ _ HH.out HE.out (by omega)).mono ?_); rintro e1 w1 ⟨rfl, rfl⟩))
        | (go_at_call 17; ((with_reducible refine (specValid_any _ _ _ _ _ _ _ _ X Y _ H0X.out H0Y.out hla hlb hca hcb).mono ?_); rintro e1 w1 ⟨rfl, hb1⟩; obtain ⟨d0, d1, d2, d3, hs1⟩ := box4_next hb1 (by omega) c0 c1 c2 c3; have X1 := Lib.hid (X0.out.trans (hb1.mono (by omega))); clear hb1)))
      go_ret
      exact ⟨ret_int hz.out.symm, X1.out⟩
    · have hab := elB_two.1 (by rw [← hi_valid hv]; exact he)
      obtain ⟨m, e, b1, o1, b2, o2, rfl, rfl, rfl, rfl, hr, _, _, _, _, _⟩ := valid_data hv hX hY hca hcb
      have HR := Lib.hid hr
      clear hr
      have ha' := of_decide_eq_true hab.1
      have hb' := of_decide_eq_true hab.2
      obtain ⟨a, rfl⟩ := Int.eq_ofNat_of_zero_le ha'.1
      obtain ⟨b, rfl⟩ := Int.eq_ofNat_of_zero_le hb'.1
      have la' : a < m := by omega
      have lb' : b < m := by omega
      have hz := Lib.hid (opV_yes (T := tabOf X) hv hab.1 hab.2)
      clear hab
      have bA : Below w.heap.size w (w.alloc (.cells #[.int .i64 m, .int .i64 e, .slice (some ⟨b1, o1, none⟩) la ca, .slice (some ⟨b2, o2, none⟩) lb cb] 25)) := (Below.refl w.heap.size w).alloc (Nat.le_refl _) _
      have bB : Below w.heap.size w ((w.alloc (.cells #[.int .i64 m, .int .i64 e, .slice (some ⟨b1, o1, none⟩) la ca, .slice (some ⟨b2, o2, none⟩) lb cb] 25)).alloc (.cells #[.int .i64 a, .int .i64 b] 3)) := bA.alloc (by simp) _
      have k0 : Blk ((w.alloc (.cells #[.int .i64 m, .int .i64 e, .slice (some ⟨b1, o1, none⟩) la ca, .slice (some ⟨b2, o2, none⟩) lb cb] 25)).alloc (.cells #[.int .i64 a, .int .i64 b] 3)) w.heap.size 25 #[.int .i64 m, .int .i64 e, .slice (some ⟨b1, o1, none⟩) la ca, .slice (some ⟨b2, o2, none⟩) lb cb] := (Blk.new w _ _).alloc _
      have hE : Ints ((w.alloc (.cells #[.int .i64 m, .int .i64 e, .slice (some ⟨b1, o1, none⟩) la ca, .slice (some ⟨b2, o2, none⟩) lb cb] 25)).alloc (.cells #[.int .i64 a, .int .i64 b] 3)) (w.heap.size + 2) (some ⟨w.heap.size + 1, 0, none⟩) 2 [a, b] := by
        have := ints_two (w := w.alloc (.cells #[.int .i64 m, .int .i64 e, .slice (some ⟨b1, o1, none⟩) la ca, .slice (some ⟨b2, o2, none⟩) lb cb] 25)) (u := a) (v := b) (T := 3)
        simpa using this
      obtain ⟨W, hW⟩ : ∃ W, (w.alloc (.cells #[.int .i64 m, .int .i64 e, .slice (some ⟨b1, o1, none⟩) la ca, .slice (some ⟨b2, o2, none⟩) lb cb] 25)).alloc (.cells #[.int .i64 a, .int .i64 b] 3) = W := ⟨_, rfl⟩
      rw [hW] at bB k0 hE
      have HB := Lib.hid bB
      have HE := Lib.hid hE
      have hs := k0.lt
      have c0 := k0.cell 0
      have c1 := k0.cell 1
      have c2 := k0.cell 2
      have c3 := k0.cell 3
      simp at c0 c1 c2 c3
      have H0X := Lib.hid (hX.next HB.out)
      have H0Y := Lib.hid (hY.next HB.out)
      have HW := Lib.hid hW
      clear hW hX hY bA bB k0 hE
      have R0 := Lib.hid (HR.out.next HB.out)
      go_enter Try.func24, Try.ntmps24
      go_wp2_with (fail)
      rw [HW.out]
      have X0 := HB
      go_wp2_with (first
        | (go_at_call 90; ((with_reducible refine (l1Elements_any _ _ _ _ _ [(a : Int), (b : Int)] _ _ HH.out HE.out (by omega)).mono ?_); rintro e1 w1 ⟨rfl, rfl⟩))
        | (go_at_call 17; ((with_reducible refine (specValid_any _ _ _ _ _ _ _ _ X Y _ H0X.out H0Y.out hla hlb hca hcb).mono ?_); rintro e1 w1 ⟨rfl, hb1⟩; obtain ⟨d0, d1, d2, d3, hs1⟩ := box4_next hb1 (by omega) c0 c1 c2 c3; have X1 := Lib.hid (X0.out.trans (hb1.mono (by omega))); have R1 := Lib.hid (R0.out.next hb1); clear hb1))
        | (go_at_call 81; ((with_reducible refine (l1Add_any a b m e b1 o1 la ca b2 o2 lb cb (tabOf X) (tabOf Y) _ R1.out la' lb').mono ?_); rintro e2 w2 ⟨rfl, hb2⟩; obtain ⟨f0, f1, f2, f3, hs2⟩ := box4_next hb2 (by omega) d0 d1 d2 d3; have X2 := Lib.hid (X1.out.trans (hb2.mono (by omega))); clear hb2)))
      go_ret
      exact ⟨ret_int hz.out.symm, X2.out⟩
set_option maxHeartbeats 2000000 in
theorem smul_any (n o : Int) (A B : Option Addr) (la ca lb cb : Nat) (X Y : List Int) (a b : Int) (w : World) (hX : Ints w w.heap.size A la X) (hY : Ints w w.heap.size B lb Y) (hla : la ≤ 9223372036854775807) (hlb : lb ≤ 9223372036854775807) (hca : la ≤ ca) (hcb : lb ≤ cb) :
    Calls Try.prog 25 #[.agg #[.int .i64 n, .int .i64 o, .slice A la ca, .slice B lb cb], .int .i64 a, .int .i64 b] w fun e w' => e = .returned (.int .i64 (opV (tabOf Y) n o X Y a b)) ∧ Below w.heap.size w w' := by
  have HH := Lib.hid (show wrap64 (n - 1) = hiOf n from rfl)
  cases he : elB (hiOf n) [a, b]
  · have hz := Lib.hid (opV_no (T := tabOf Y) (a := a) (b := b) (show ¬ (validB n o X Y = true ∧ inB n a = true ∧ inB n b = true) from fun g => by rw [hi_valid g.1, elB_two.2 g.2] at he; cases he))
    have bA : Below w.heap.size w (w.alloc (.cells #[.int .i64 n, .int .i64 o, .slice A la ca, .slice B lb cb] 25)) := (Below.refl w.heap.size w).alloc (Nat.le_refl _) _
    have bB : Below w.heap.size w ((w.alloc (.cells #[.int .i64 n, .int .i64 o, .slice A la ca, .slice B lb cb] 25)).alloc (.cells #[.int .i64 a, .int .i64 b] 3)) := bA.alloc (by simp) _
    have k0 : Blk ((w.alloc (.cells #[.int .i64 n, .int .i64 o, .slice A la ca, .slice B lb cb] 25)).alloc (.cells #[.int .i64 a, .int .i64 b] 3)) w.heap.size 25 #[.int .i64 n, .int .i64 o, .slice A la ca, .slice B lb cb] := (Blk.new w _ _).alloc _
    have hE : Ints ((w.alloc (.cells #[.int .i64 n, .int .i64 o, .slice A la ca, .slice B lb cb] 25)).alloc (.cells #[.int .i64 a, .int .i64 b] 3)) (w.heap.size + 2) (some ⟨w.heap.size + 1, 0, none⟩) 2 [a, b] := by
      have := ints_two (w := w.alloc (.cells #[.int .i64 n, .int .i64 o, .slice A la ca, .slice B lb cb] 25)) (u := a) (v := b) (T := 3)
      simpa using this
    obtain ⟨W, hW⟩ : ∃ W, (w.alloc (.cells #[.int .i64 n, .int .i64 o, .slice A la ca, .slice B lb cb] 25)).alloc (.cells #[.int .i64 a, .int .i64 b] 3) = W := ⟨_, rfl⟩
    rw [hW] at bB k0 hE
    have HB := Lib.hid bB
    have HE := Lib.hid hE
    have hs := k0.lt
    have c0 := k0.cell 0
    have c1 := k0.cell 1
    have c2 := k0.cell 2
    have c3 := k0.cell 3
    simp at c0 c1 c2 c3
    have H0X := Lib.hid (hX.next HB.out)
    have H0Y := Lib.hid (hY.next HB.out)
    have HW := Lib.hid hW
    clear hW hX hY bA bB k0 hE
    go_enter Try.func25, Try.ntmps25
    go_wp2_with (fail)
    rw [HW.out]
    have X0 := HB
    go_wp2_with (first
      | (go_at_call 90; ((with_reducible refine (l1Elements_any _ _ _ _ _ [a, b] _ _ HH.out HE.out (by omega)).mono ?_); rintro e1 w1 ⟨rfl, rfl⟩)))
    go_ret
    exact ⟨ret_int hz.out.symm, HB.out⟩
  · cases hv : validB n o X Y
    · have hz := Lib.hid (opV_no (T := tabOf Y) (a := a) (b := b) (show ¬ (validB n o X Y = true ∧ inB n a = true ∧ inB n b = true) by rw [hv]; simp))
      have bA : Below w.heap.size w (w.alloc (.cells #[.int .i64 n, .int .i64 o, .slice A la ca, .slice B lb cb] 25)) := (Below.refl w.heap.size w).alloc (Nat.le_refl _) _
      have bB : Below w.heap.size w ((w.alloc (.cells #[.int .i64 n, .int .i64 o, .slice A la ca, .slice B lb cb] 25)).alloc (.cells #[.int .i64 a, .int .i64 b] 3)) := bA.alloc (by simp) _
      have k0 : Blk ((w.alloc (.cells #[.int .i64 n, .int .i64 o, .slice A la ca, .slice B lb cb] 25)).alloc (.cells #[.int .i64 a, .int .i64 b] 3)) w.heap.size 25 #[.int .i64 n, .int .i64 o, .slice A la ca, .slice B lb cb] := (Blk.new w _ _).alloc _
      have hE : Ints ((w.alloc (.cells #[.int .i64 n, .int .i64 o, .slice A la ca, .slice B lb cb] 25)).alloc (.cells #[.int .i64 a, .int .i64 b] 3)) (w.heap.size + 2) (some ⟨w.heap.size + 1, 0, none⟩) 2 [a, b] := by
        have := ints_two (w := w.alloc (.cells #[.int .i64 n, .int .i64 o, .slice A la ca, .slice B lb cb] 25)) (u := a) (v := b) (T := 3)
        simpa using this
      obtain ⟨W, hW⟩ : ∃ W, (w.alloc (.cells #[.int .i64 n, .int .i64 o, .slice A la ca, .slice B lb cb] 25)).alloc (.cells #[.int .i64 a, .int .i64 b] 3) = W := ⟨_, rfl⟩
      rw [hW] at bB k0 hE
      have HB := Lib.hid bB
      have HE := Lib.hid hE
      have hs := k0.lt
      have c0 := k0.cell 0
      have c1 := k0.cell 1
      have c2 := k0.cell 2
      have c3 := k0.cell 3
      simp at c0 c1 c2 c3
      have H0X := Lib.hid (hX.next HB.out)
      have H0Y := Lib.hid (hY.next HB.out)
      have HW := Lib.hid hW
      clear hW hX hY bA bB k0 hE
      go_enter Try.func25, Try.ntmps25
      go_wp2_with (fail)
      rw [HW.out]
      have X0 := HB
      go_wp2_with (first
        | (go_at_call 90; ((with_reducible refine (l1Elements_any _ _ _ _ _ [a, b] _ _ HH.out HE.out (by omega)).mono ?_); rintro e1 w1 ⟨rfl, rfl⟩))
        | (go_at_call 17; ((with_reducible refine (specValid_any _ _ _ _ _ _ _ _ X Y _ H0X.out H0Y.out hla hlb hca hcb).mono ?_); rintro e1 w1 ⟨rfl, hb1⟩; obtain ⟨d0, d1, d2, d3, hs1⟩ := box4_next hb1 (by omega) c0 c1 c2 c3; have X1 := Lib.hid (X0.out.trans (hb1.mono (by omega))); clear hb1)))
      go_ret
      exact ⟨ret_int hz.out.symm, X1.out⟩
    · have hab := elB_two.1 (by rw [← hi_valid hv]; exact he)
      obtain ⟨m, e, b1, o1, b2, o2, rfl, rfl, rfl, rfl, hr, _, _, _, _, _⟩ := valid_data hv hX hY hca hcb
      have HR := Lib.hid hr
      clear hr
      have ha' := of_decide_eq_true hab.1
      have hb' := of_decide_eq_true hab.2
      obtain ⟨a, rfl⟩ := Int.eq_ofNat_of_zero_le ha'.1
      obtain ⟨b, rfl⟩ := Int.eq_ofNat_of_zero_le hb'.1
      have la' : a < m := by omega
      have lb' : b < m := by omega
      have hz := Lib.hid (opV_yes (T := tabOf Y) hv hab.1 hab.2)
      clear hab
      have bA : Below w.heap.size w (w.alloc (.cells #[.int .i64 m, .int .i64 e, .slice (some ⟨b1, o1, none⟩) la ca, .slice (some ⟨b2, o2, none⟩) lb cb] 25)) := (Below.refl w.heap.size w).alloc (Nat.le_refl _) _
      have bB : Below w.heap.size w ((w.alloc (.cells #[.int .i64 m, .int .i64 e, .slice (some ⟨b1, o1, none⟩) la ca, .slice (some ⟨b2, o2, none⟩) lb cb] 25)).alloc (.cells #[.int .i64 a, .int .i64 b] 3)) := bA.alloc (by simp) _
      have k0 : Blk ((w.alloc (.cells #[.int .i64 m, .int .i64 e, .slice (some ⟨b1, o1, none⟩) la ca, .slice (some ⟨b2, o2, none⟩) lb cb] 25)).alloc (.cells #[.int .i64 a, .int .i64 b] 3)) w.heap.size 25 #[.int .i64 m, .int .i64 e, .slice (some ⟨b1, o1, none⟩) la ca, .slice (some ⟨b2, o2, none⟩) lb cb] := (Blk.new w _ _).alloc _
      have hE : Ints ((w.alloc (.cells #[.int .i64 m, .int .i64 e, .slice (some ⟨b1, o1, none⟩) la ca, .slice (some ⟨b2, o2, none⟩) lb cb] 25)).alloc (.cells #[.int .i64 a, .int .i64 b] 3)) (w.heap.size + 2) (some ⟨w.heap.size + 1, 0, none⟩) 2 [a, b] := by
        have := ints_two (w := w.alloc (.cells #[.int .i64 m, .int .i64 e, .slice (some ⟨b1, o1, none⟩) la ca, .slice (some ⟨b2, o2, none⟩) lb cb] 25)) (u := a) (v := b) (T := 3)
        simpa using this
      obtain ⟨W, hW⟩ : ∃ W, (w.alloc (.cells #[.int .i64 m, .int .i64 e, .slice (some ⟨b1, o1, none⟩) la ca, .slice (some ⟨b2, o2, none⟩) lb cb] 25)).alloc (.cells #[.int .i64 a, .int .i64 b] 3) = W := ⟨_, rfl⟩
      rw [hW] at bB k0 hE
      have HB := Lib.hid bB
      have HE := Lib.hid hE
      have hs := k0.lt
      have c0 := k0.cell 0
      have c1 := k0.cell 1
      have c2 := k0.cell 2
      have c3 := k0.cell 3
      simp at c0 c1 c2 c3
      have H0X := Lib.hid (hX.next HB.out)
      have H0Y := Lib.hid (hY.next HB.out)
      have HW := Lib.hid hW
      clear hW hX hY bA bB k0 hE
      have R0 := Lib.hid (HR.out.next HB.out)
      go_enter Try.func25, Try.ntmps25
      go_wp2_with (fail)
      rw [HW.out]
      have X0 := HB
      go_wp2_with (first
        | (go_at_call 90; ((with_reducible refine (l1Elements_any _ _ _ _ _ [(a : Int), (b : Int)] _ _ HH.out HE.out (by omega)).mono ?_); rintro e1 w1 ⟨rfl, rfl⟩))
        | (go_at_call 17; ((with_reducible refine (specValid_any _ _ _ _ _ _ _ _ X Y _ H0X.out H0Y.out hla hlb hca hcb).mono ?_); rintro e1 w1 ⟨rfl, hb1⟩; obtain ⟨d0, d1, d2, d3, hs1⟩ := box4_next hb1 (by omega) c0 c1 c2 c3; have X1 := Lib.hid (X0.out.trans (hb1.mono (by omega))); have R1 := Lib.hid (R0.out.next hb1); clear hb1))
        | (go_at_call 82; ((with_reducible refine (l1Mul_any a b m e b1 o1 la ca b2 o2 lb cb (tabOf X) (tabOf Y) _ R1.out la' lb').mono ?_); rintro e2 w2 ⟨rfl, hb2⟩; obtain ⟨f0, f1, f2, f3, hs2⟩ := box4_next hb2 (by omega) d0 d1 d2 d3; have X2 := Lib.hid (X1.out.trans (hb2.mono (by omega))); clear hb2)))
      go_ret
      exact ⟨ret_int hz.out.symm, X2.out⟩

end Go.Proofs.Ytpdonhoeimenjaa
