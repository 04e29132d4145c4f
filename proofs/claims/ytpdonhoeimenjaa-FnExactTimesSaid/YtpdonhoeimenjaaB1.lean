
/- The reading side's RingValid: the same as the program's. -/
import Derived.Test.YtpdonhoeimenjaaA9
namespace Go.Proofs.Ytpdonhoeimenjaa
open Go.RowKit

def Trip (m : Nat) (S P : Nat → Nat) (a b c : Nat) : Prop := Law3 m S a b c ∧ Law3 m P a b c ∧ Dist3 m S P a b c
def TripAt (m : Nat) (S P : Nat → Nat) (j : Nat) : Prop := Trip m S P (j / m / m) (j / m % m) (j % m)
def TripTo (m : Nat) (S P : Nat → Nat) (k : Nat) : Prop := ∀ j, j < k → TripAt m S P j
noncomputable def tripB (m : Nat) (S P : Nat → Nat) : Bool := propB (TripTo m S P (m * m * m))
theorem cube_le {m : Nat} (hm' : m ≤ 16) : (m : Int) * m * m ≤ 4096 ∧ 0 ≤ (m : Int) * m * m ∧ (m : Int) * m * m = ((m * m * m : Nat) : Int) := by
  have h2 : m * m ≤ 16 * 16 := Nat.mul_le_mul hm' hm'
  have h3 : m * m * m ≤ 16 * 16 * 16 := Nat.mul_le_mul h2 hm'
  have e1 : (m : Int) * m * m = ((m * m * m : Nat) : Int) := by simp
  rw [e1]; omega
theorem parts_lt {m k : Nat} (hk : k < m * m * m) : k / m / m < m ∧ k / m % m < m ∧ k % m < m := by
  have hm : 0 < m := by
    rcases Nat.eq_zero_or_pos m with h | h
    · subst h; omega
    · exact h
  refine ⟨?_, Nat.mod_lt _ hm, Nat.mod_lt _ hm⟩
  rw [Nat.div_div_eq_div_mul]
  exact Nat.div_lt_of_lt_mul hk
theorem parts_int {m k : Nat} : (k : Int) / m / m = ((k / m / m : Nat) : Int) ∧ (k : Int) / m % m = ((k / m % m : Nat) : Int) ∧ (k : Int) % m = ((k % m : Nat) : Int) := by
  refine ⟨?_, ?_, ?_⟩ <;> simp
theorem trip_law {m : Nat} {S P : Nat → Nat} (h : TripTo m S P (m * m * m)) {a b c : Nat} (ha : a < m) (hb : b < m) (hc : c < m) : Trip m S P a b c := by
  have h1 := idx_lt ha hb
  have h2 : (a * m + b) * m + c < m * m * m := by
    have : (a * m + b + 1) * m ≤ m * m * m := Nat.mul_le_mul_right _ h1
    have : (a * m + b + 1) * m = (a * m + b) * m + m := Nat.succ_mul _ _
    omega
  have h3 := h _ h2
  have e1 : ((a * m + b) * m + c) / m = a * m + b := by
    rw [Nat.mul_comm, Nat.mul_add_div (by omega), Nat.div_eq_of_lt hc, Nat.add_zero]
  have e2 : (a * m + b) / m = a := by
    rw [Nat.mul_comm, Nat.mul_add_div (by omega), Nat.div_eq_of_lt hb, Nat.add_zero]
  have e3 : (a * m + b) % m = b := by
    rw [Nat.mul_comm, Nat.mul_add_mod, Nat.mod_eq_of_lt hb]
  have e4 : ((a * m + b) * m + c) % m = c := by
    rw [Nat.mul_comm, Nat.mul_add_mod, Nat.mod_eq_of_lt hc]
  unfold TripAt at h3
  rw [e1, e2, e3, e4] at h3
  exact h3

/-- The laws as the reading side asks them. -/
noncomputable def laws2B (m e : Nat) (S P : Nat → Nat) : Bool := pairB m e S P && tripB m S P

set_option maxHeartbeats 4000000 in
set_option maxRecDepth 100000 in
theorem trips_round (m e b1 o1 la ca b2 o2 lb cb : Nat) (S P : Nat → Nat) (w : World) (hr : RingAt w m e b1 o1 la ca b2 o2 lb cb S P) (X Y : List Int) (hX : Ints w w.heap.size (some ⟨b1, o1, none⟩) la X) (hY : Ints w w.heap.size (some ⟨b2, o2, none⟩) lb Y) (hf : fitsB m e X Y = true) :
    Calls Try.prog 17 #[.agg #[.int .i64 m, .int .i64 e, .slice (some ⟨b1, o1, none⟩) la ca, .slice (some ⟨b2, o2, none⟩) lb cb]] w fun e' w' => e' = .returned (.bool (laws2B m e S P)) ∧ Below w.heap.size w w' := by
  have hm := hr.hm
  have hm' := hr.hm'
  have hq : m * m ≤ 256 := Nat.mul_le_mul hm' hm'
  have hla' : la ≤ 9223372036854775807 := by rw [hr.hla]; omega
  have hlb' : lb ≤ 9223372036854775807 := by rw [hr.hlb]; omega
  obtain ⟨s1, s2⟩ := sq_le hm'
  obtain ⟨t1, t2, t3⟩ := cube_le hm'
  have HT3 := Lib.hid t3
  have HR := Lib.hid hr
  clear hr t3
  obtain ⟨c0, c1, c2, c3, hs⟩ := box4_new w (.int .i64 m) (.int .i64 e) (.slice (some ⟨b1, o1, none⟩) la ca) (.slice (some ⟨b2, o2, none⟩) lb cb) 25
  obtain ⟨W, hW⟩ : ∃ W, w.alloc (.cells #[.int .i64 m, .int .i64 e, .slice (some ⟨b1, o1, none⟩) la ca, .slice (some ⟨b2, o2, none⟩) lb cb] 25) = W := ⟨_, rfl⟩
  have HB := Lib.hid (show Below w.heap.size w W by subst hW; exact (Below.refl w.heap.size w).alloc (Nat.le_refl _) _)
  have H0X := Lib.hid (hX.next HB.out)
  have H0Y := Lib.hid (hY.next HB.out)
  have R0 := Lib.hid (HR.out.next HB.out)
  rw [hW] at c0 c1 c2 c3 hs
  have HW := Lib.hid hW
  clear hW hX hY
  unfold laws2B
  cases q1 : pairB m e S P
  · go_enter Try.func17, Try.ntmps17
    go_wp2_with (fail)
    rw [HW.out]
    go_wp2_with (first
      | (go_at_call 79; refine (l1Shape_any _ _ _ _ _ _ _ _ X Y _ H0X.out H0Y.out hla' hlb').mono ?_; rintro e1 w1 ⟨rfl, hb1⟩; obtain ⟨d0, d1, d2, d3, hs1⟩ := box4_next hb1 hs c0 c1 c2 c3; have X1 := Lib.hid (HB.out.trans (hb1.mono (by omega))); have R1 := Lib.hid (R0.out.next hb1); clear hb1)
      | (go_at_call 80; refine (l1Pairs_any m e b1 o1 la ca b2 o2 lb cb S P _ R1.out).mono ?_; rintro e2 w2 ⟨rfl, hb2⟩; obtain ⟨f0, f1, f2, f3, hs2⟩ := box4_next hb2 (by omega) d0 d1 d2 d3; have X2 := Lib.hid (X1.out.trans (hb2.mono (by omega))); have R2 := Lib.hid (R1.out.next hb2); clear hb2))
    go_ret
    exact ⟨rfl, X2.out⟩
  · go_enter Try.func17, Try.ntmps17
    go_wp2_with (fail)
    rw [HW.out]
    go_wp2_with (first
      | (go_at_call 79; refine (l1Shape_any _ _ _ _ _ _ _ _ X Y _ H0X.out H0Y.out hla' hlb').mono ?_; rintro e1 w1 ⟨rfl, hb1⟩; obtain ⟨d0, d1, d2, d3, hs1⟩ := box4_next hb1 hs c0 c1 c2 c3; have X1 := Lib.hid (HB.out.trans (hb1.mono (by omega))); have R1 := Lib.hid (R0.out.next hb1); clear hb1)
      | (go_at_call 80; refine (l1Pairs_any m e b1 o1 la ca b2 o2 lb cb S P _ R1.out).mono ?_; rintro e2 w2 ⟨rfl, hb2⟩; obtain ⟨f0, f1, f2, f3, hs2⟩ := box4_next hb2 (by omega) d0 d1 d2 d3; have X2 := Lib.hid (X1.out.trans (hb2.mono (by omega))); have R2 := Lib.hid (R1.out.next hb2); clear hb2))
    go_loopg [23] (m * m * m) (fun g i wr => ∃ k : Nat, k ≤ m * m * m ∧ m * m * m ≤ k + g ∧ i = .int .i64 k ∧ TripTo m S P k ∧ Below w2.heap.size w2 wr)
    case atStart => exact ⟨0, Nat.zero_le _, by omega, rfl, fun j hj => absurd hj (by omega), Below.refl _ _⟩
    case round =>
      obtain ⟨k, hk, hg, rfl, hup, hb⟩ := hrel
      have HU := Lib.hid hup
      obtain ⟨p0, p1, p2, p3, hs9⟩ := box4_next hb (by omega) f0 f1 f2 f3
      have X9 := Lib.hid (X2.out.trans (hb.mono (by omega)))
      have R9 := Lib.hid (R2.out.next hb)
      have B9 := Lib.hid hb
      clear hup hb
      by_cases hlt : (k : Int) < (m : Int) * m * m
      · have hlt' : k < m * m * m := by have := HT3.out; omega
        obtain ⟨pa, pb, pc⟩ := parts_lt hlt'
        obtain ⟨A, eA⟩ : ∃ A : Nat, A = k / m / m := ⟨_, rfl⟩
        obtain ⟨B, eB⟩ : ∃ B : Nat, B = k / m % m := ⟨_, rfl⟩
        obtain ⟨C, eC⟩ : ∃ C : Nat, C = k % m := ⟨_, rfl⟩
        obtain ⟨i1, i2, i3⟩ := parts_int (m := m) (k := k)
        rw [← eA] at pa i1
        rw [← eB] at pb i2
        rw [← eC] at pc i3
        have hA : A < m := pa
        have hB : B < m := pb
        have hC : C < m := pc
        have HK := Lib.hid (show TripAt m S P k ↔ Trip m S P A B C by unfold TripAt; rw [← eA, ← eB, ← eC])
        clear pa pb pc eA eB eC
        have hSAB := R9.out.ts.lt hA hB
        have hSBC := R9.out.ts.lt hB hC
        have hPAB := R9.out.tp.lt hA hB
        have hPBC := R9.out.tp.lt hB hC
        have hPAC := R9.out.tp.lt hA hC
        have n1 : 0 ≤ (k : Int) / m := Int.ediv_nonneg (by omega) (by omega)
        have n2 : (k : Int) / m ≤ k := Int.ediv_le_self _ (by omega)
        have hkk : k ≤ 4096 := by have := HT3.out; omega
        have I1 := Lib.hid i1
        have I2 := Lib.hid i2
        have I3 := Lib.hid i3
        clear i1 i2 i3
        go_wp2
        go_quiet (fail)
        have hq9 : wr.heap.size ≤ (wr.drewN nq).heap.size := Nat.le_refl _
        rw [I1.out, I2.out, I3.out]
        have X10 := Lib.hid (below_drewN X9.out nq)
        have B10 := Lib.hid (below_drewN B9.out nq)
        have R10 := Lib.hid (R9.out.next (below_drewN (Below.refl _ _) nq))
        obtain ⟨w10, hw10⟩ : ∃ w10, wr.drewN nq = w10 := ⟨_, rfl⟩
        have hs10 : w.heap.size < w10.heap.size := by rw [← hw10]; exact Nat.lt_of_lt_of_le (by omega) hq9
        rw [hw10] at X10 B10 R10 ⊢
        have hsB10 : w2.heap.size ≤ w10.heap.size := B10.out.size
        obtain ⟨y0, y1, y2, y3⟩ : w10.cell? ⟨w.heap.size, 0, none⟩ = some (.int .i64 m) ∧ w10.cell? ⟨w.heap.size, 1, none⟩ = some (.int .i64 e) ∧ w10.cell? ⟨w.heap.size, 2, none⟩ = some (.slice (some ⟨b1, o1, none⟩) la ca) ∧ w10.cell? ⟨w.heap.size, 3, none⟩ = some (.slice (some ⟨b2, o2, none⟩) lb cb) := by
          rw [← hw10]; exact ⟨p0, p1, p2, p3⟩
        clear hw10 hq9
        go_wp2
        by_cases hSA : S (S (A * m + B) * m + C) = S (A * m + S (B * m + C))
        · have hSA1 : S (S (A * m + B) * m + C) ≤ S (A * m + S (B * m + C)) := by omega
          have hSA2 : S (A * m + S (B * m + C)) ≤ S (S (A * m + B) * m + C) := by omega
          have thSA : (((S (S (A * m + B) * m + C) : Nat) : Int) != ((S (A * m + S (B * m + C)) : Nat) : Int)) = false := by rw [bne_eq_false_iff_eq]; omega
          have HhSA := Lib.hid hSA
          clear hSA
          refine wp_region_ext (by kernel_rfl) (by kernel_rfl) ?_
          repeat (go_big_quiet_step (((first
                      | (go_at_call 81; ((with_reducible refine calls_ext (l1Add_any A B m e b1 o1 la ca b2 o2 lb cb S P _ (R10.out.ext _) hA hB))))
                      | (go_at_call 81; ((with_reducible refine calls_ext (l1Add_any (S (A * m + B)) C m e b1 o1 la ca b2 o2 lb cb S P _ (R10.out.ext _) hSAB hC))))
                      | (go_at_call 81; ((with_reducible refine calls_ext (l1Add_any B C m e b1 o1 la ca b2 o2 lb cb S P _ (R10.out.ext _) hB hC))))
                      | (go_at_call 81; ((with_reducible refine calls_ext (l1Add_any A (S (B * m + C)) m e b1 o1 la ca b2 o2 lb cb S P _ (R10.out.ext _) hA hSBC))))
                      | (go_at_call 81; ((with_reducible refine calls_ext (l1Add_any (P (A * m + B)) (P (A * m + C)) m e b1 o1 la ca b2 o2 lb cb S P _ (R10.out.ext _) hPAB hPAC))))
                      | (go_at_call 82; ((with_reducible refine calls_ext (l1Mul_any A B m e b1 o1 la ca b2 o2 lb cb S P _ (R10.out.ext _) hA hB))))
                      | (go_at_call 82; ((with_reducible refine calls_ext (l1Mul_any (P (A * m + B)) C m e b1 o1 la ca b2 o2 lb cb S P _ (R10.out.ext _) hPAB hC))))
                      | (go_at_call 82; ((with_reducible refine calls_ext (l1Mul_any B C m e b1 o1 la ca b2 o2 lb cb S P _ (R10.out.ext _) hB hC))))
                      | (go_at_call 82; ((with_reducible refine calls_ext (l1Mul_any A (P (B * m + C)) m e b1 o1 la ca b2 o2 lb cb S P _ (R10.out.ext _) hA hPBC))))
                      | (go_at_call 82; ((with_reducible refine calls_ext (l1Mul_any A (S (B * m + C)) m e b1 o1 la ca b2 o2 lb cb S P _ (R10.out.ext _) hA hSBC))))
                      | (go_at_call 82; ((with_reducible refine calls_ext (l1Mul_any A C m e b1 o1 la ca b2 o2 lb cb S P _ (R10.out.ext _) hA hC))))))))
          refine wpQuiet_nil ?_
          intro w11 hb
          obtain ⟨l0, l1, l2, l3, hs11⟩ := box4_next hb (by omega) (w1 := w11) y0 y1 y2 y3
          have X11 := Lib.hid (X10.out.trans (hb.mono (by omega)))
          have B11 := Lib.hid (B10.out.trans (hb.mono (by omega)))
          have R11 := Lib.hid (R10.out.next hb)
          clear hb
          go_wp2
          by_cases hPA : P (P (A * m + B) * m + C) = P (A * m + P (B * m + C))
          · have hPA1 : P (P (A * m + B) * m + C) ≤ P (A * m + P (B * m + C)) := by omega
            have hPA2 : P (A * m + P (B * m + C)) ≤ P (P (A * m + B) * m + C) := by omega
            have thPA : (((P (P (A * m + B) * m + C) : Nat) : Int) != ((P (A * m + P (B * m + C)) : Nat) : Int)) = false := by rw [bne_eq_false_iff_eq]; omega
            have HhPA := Lib.hid hPA
            clear hPA
            refine wp_region_ext (by kernel_rfl) (by kernel_rfl) ?_
            repeat (go_big_quiet_step (((first
                        | (go_at_call 81; ((with_reducible refine calls_ext (l1Add_any A B m e b1 o1 la ca b2 o2 lb cb S P _ (R11.out.ext _) hA hB))))
                        | (go_at_call 81; ((with_reducible refine calls_ext (l1Add_any (S (A * m + B)) C m e b1 o1 la ca b2 o2 lb cb S P _ (R11.out.ext _) hSAB hC))))
                        | (go_at_call 81; ((with_reducible refine calls_ext (l1Add_any B C m e b1 o1 la ca b2 o2 lb cb S P _ (R11.out.ext _) hB hC))))
                        | (go_at_call 81; ((with_reducible refine calls_ext (l1Add_any A (S (B * m + C)) m e b1 o1 la ca b2 o2 lb cb S P _ (R11.out.ext _) hA hSBC))))
                        | (go_at_call 81; ((with_reducible refine calls_ext (l1Add_any (P (A * m + B)) (P (A * m + C)) m e b1 o1 la ca b2 o2 lb cb S P _ (R11.out.ext _) hPAB hPAC))))
                        | (go_at_call 82; ((with_reducible refine calls_ext (l1Mul_any A B m e b1 o1 la ca b2 o2 lb cb S P _ (R11.out.ext _) hA hB))))
                        | (go_at_call 82; ((with_reducible refine calls_ext (l1Mul_any (P (A * m + B)) C m e b1 o1 la ca b2 o2 lb cb S P _ (R11.out.ext _) hPAB hC))))
                        | (go_at_call 82; ((with_reducible refine calls_ext (l1Mul_any B C m e b1 o1 la ca b2 o2 lb cb S P _ (R11.out.ext _) hB hC))))
                        | (go_at_call 82; ((with_reducible refine calls_ext (l1Mul_any A (P (B * m + C)) m e b1 o1 la ca b2 o2 lb cb S P _ (R11.out.ext _) hA hPBC))))
                        | (go_at_call 82; ((with_reducible refine calls_ext (l1Mul_any A (S (B * m + C)) m e b1 o1 la ca b2 o2 lb cb S P _ (R11.out.ext _) hA hSBC))))
                        | (go_at_call 82; ((with_reducible refine calls_ext (l1Mul_any A C m e b1 o1 la ca b2 o2 lb cb S P _ (R11.out.ext _) hA hC))))))))
            refine wpQuiet_nil ?_
            intro w12 hb
            obtain ⟨j0, j1, j2, j3, hs12⟩ := box4_next hb (by omega) (w1 := w12) l0 l1 l2 l3
            have X12 := Lib.hid (X11.out.trans (hb.mono (by omega)))
            have B12 := Lib.hid (B11.out.trans (hb.mono (by omega)))
            have R12 := Lib.hid (R11.out.next hb)
            clear hb
            go_wp2
            by_cases hDA : P (A * m + S (B * m + C)) = S (P (A * m + B) * m + P (A * m + C))
            · have hDA1 : P (A * m + S (B * m + C)) ≤ S (P (A * m + B) * m + P (A * m + C)) := by omega
              have hDA2 : S (P (A * m + B) * m + P (A * m + C)) ≤ P (A * m + S (B * m + C)) := by omega
              have thDA : (((P (A * m + S (B * m + C)) : Nat) : Int) != ((S (P (A * m + B) * m + P (A * m + C)) : Nat) : Int)) = false := by rw [bne_eq_false_iff_eq]; omega
              have HhDA := Lib.hid hDA
              clear hDA
              refine wp_region_ext (by kernel_rfl) (by kernel_rfl) ?_
              repeat (go_big_quiet_step (((first
                          | (go_at_call 81; ((with_reducible refine calls_ext (l1Add_any A B m e b1 o1 la ca b2 o2 lb cb S P _ (R12.out.ext _) hA hB))))
                          | (go_at_call 81; ((with_reducible refine calls_ext (l1Add_any (S (A * m + B)) C m e b1 o1 la ca b2 o2 lb cb S P _ (R12.out.ext _) hSAB hC))))
                          | (go_at_call 81; ((with_reducible refine calls_ext (l1Add_any B C m e b1 o1 la ca b2 o2 lb cb S P _ (R12.out.ext _) hB hC))))
                          | (go_at_call 81; ((with_reducible refine calls_ext (l1Add_any A (S (B * m + C)) m e b1 o1 la ca b2 o2 lb cb S P _ (R12.out.ext _) hA hSBC))))
                          | (go_at_call 81; ((with_reducible refine calls_ext (l1Add_any (P (A * m + B)) (P (A * m + C)) m e b1 o1 la ca b2 o2 lb cb S P _ (R12.out.ext _) hPAB hPAC))))
                          | (go_at_call 82; ((with_reducible refine calls_ext (l1Mul_any A B m e b1 o1 la ca b2 o2 lb cb S P _ (R12.out.ext _) hA hB))))
                          | (go_at_call 82; ((with_reducible refine calls_ext (l1Mul_any (P (A * m + B)) C m e b1 o1 la ca b2 o2 lb cb S P _ (R12.out.ext _) hPAB hC))))
                          | (go_at_call 82; ((with_reducible refine calls_ext (l1Mul_any B C m e b1 o1 la ca b2 o2 lb cb S P _ (R12.out.ext _) hB hC))))
                          | (go_at_call 82; ((with_reducible refine calls_ext (l1Mul_any A (P (B * m + C)) m e b1 o1 la ca b2 o2 lb cb S P _ (R12.out.ext _) hA hPBC))))
                          | (go_at_call 82; ((with_reducible refine calls_ext (l1Mul_any A (S (B * m + C)) m e b1 o1 la ca b2 o2 lb cb S P _ (R12.out.ext _) hA hSBC))))
                          | (go_at_call 82; ((with_reducible refine calls_ext (l1Mul_any A C m e b1 o1 la ca b2 o2 lb cb S P _ (R12.out.ext _) hA hC))))))))
              refine wpQuiet_nil ?_
              intro w13 hb
              obtain ⟨v0, v1, v2, v3, hs13⟩ := box4_next hb (by omega) (w1 := w13) j0 j1 j2 j3
              have X13 := Lib.hid (X12.out.trans (hb.mono (by omega)))
              have B13 := Lib.hid (B12.out.trans (hb.mono (by omega)))
              have R13 := Lib.hid (R12.out.next hb)
              clear hb
              go_wp2
              go_roundg (m * m * m - (k + 1))
              case measure => omega
              case rel => exact ⟨k + 1, by omega, by omega, by go_num, forall_succ HU.out (HK.out.2 ⟨HhSA.out, HhPA.out, HhDA.out⟩), B13.out⟩
            · have thDA : (((P (A * m + S (B * m + C)) : Nat) : Int) != ((S (P (A * m + B) * m + P (A * m + C)) : Nat) : Int)) = true := by rw [bne_iff_ne]; omega
              refine wp_region_ext (by kernel_rfl) (by kernel_rfl) ?_
              repeat (go_big_quiet_step (((first
                          | (go_at_call 81; ((with_reducible refine calls_ext (l1Add_any A B m e b1 o1 la ca b2 o2 lb cb S P _ (R12.out.ext _) hA hB))))
                          | (go_at_call 81; ((with_reducible refine calls_ext (l1Add_any (S (A * m + B)) C m e b1 o1 la ca b2 o2 lb cb S P _ (R12.out.ext _) hSAB hC))))
                          | (go_at_call 81; ((with_reducible refine calls_ext (l1Add_any B C m e b1 o1 la ca b2 o2 lb cb S P _ (R12.out.ext _) hB hC))))
                          | (go_at_call 81; ((with_reducible refine calls_ext (l1Add_any A (S (B * m + C)) m e b1 o1 la ca b2 o2 lb cb S P _ (R12.out.ext _) hA hSBC))))
                          | (go_at_call 81; ((with_reducible refine calls_ext (l1Add_any (P (A * m + B)) (P (A * m + C)) m e b1 o1 la ca b2 o2 lb cb S P _ (R12.out.ext _) hPAB hPAC))))
                          | (go_at_call 82; ((with_reducible refine calls_ext (l1Mul_any A B m e b1 o1 la ca b2 o2 lb cb S P _ (R12.out.ext _) hA hB))))
                          | (go_at_call 82; ((with_reducible refine calls_ext (l1Mul_any (P (A * m + B)) C m e b1 o1 la ca b2 o2 lb cb S P _ (R12.out.ext _) hPAB hC))))
                          | (go_at_call 82; ((with_reducible refine calls_ext (l1Mul_any B C m e b1 o1 la ca b2 o2 lb cb S P _ (R12.out.ext _) hB hC))))
                          | (go_at_call 82; ((with_reducible refine calls_ext (l1Mul_any A (P (B * m + C)) m e b1 o1 la ca b2 o2 lb cb S P _ (R12.out.ext _) hA hPBC))))
                          | (go_at_call 82; ((with_reducible refine calls_ext (l1Mul_any A (S (B * m + C)) m e b1 o1 la ca b2 o2 lb cb S P _ (R12.out.ext _) hA hSBC))))
                          | (go_at_call 82; ((with_reducible refine calls_ext (l1Mul_any A C m e b1 o1 la ca b2 o2 lb cb S P _ (R12.out.ext _) hA hC))))))))
              refine wpQuiet_nil ?_
              intro w13 hb
              obtain ⟨v0, v1, v2, v3, hs13⟩ := box4_next hb (by omega) (w1 := w13) j0 j1 j2 j3
              have X13 := Lib.hid (X12.out.trans (hb.mono (by omega)))
              have B13 := Lib.hid (B12.out.trans (hb.mono (by omega)))
              have R13 := Lib.hid (R12.out.next hb)
              clear hb
              go_wp2
              go_ret
              exact ⟨ret_bool (propB_false fun g => hDA (HK.out.1 (g k hlt')).2.2).symm, X13.out⟩
          · have thPA : (((P (P (A * m + B) * m + C) : Nat) : Int) != ((P (A * m + P (B * m + C)) : Nat) : Int)) = true := by rw [bne_iff_ne]; omega
            refine wp_region_ext (by kernel_rfl) (by kernel_rfl) ?_
            repeat (go_big_quiet_step (((first
                        | (go_at_call 81; ((with_reducible refine calls_ext (l1Add_any A B m e b1 o1 la ca b2 o2 lb cb S P _ (R11.out.ext _) hA hB))))
                        | (go_at_call 81; ((with_reducible refine calls_ext (l1Add_any (S (A * m + B)) C m e b1 o1 la ca b2 o2 lb cb S P _ (R11.out.ext _) hSAB hC))))
                        | (go_at_call 81; ((with_reducible refine calls_ext (l1Add_any B C m e b1 o1 la ca b2 o2 lb cb S P _ (R11.out.ext _) hB hC))))
                        | (go_at_call 81; ((with_reducible refine calls_ext (l1Add_any A (S (B * m + C)) m e b1 o1 la ca b2 o2 lb cb S P _ (R11.out.ext _) hA hSBC))))
                        | (go_at_call 81; ((with_reducible refine calls_ext (l1Add_any (P (A * m + B)) (P (A * m + C)) m e b1 o1 la ca b2 o2 lb cb S P _ (R11.out.ext _) hPAB hPAC))))
                        | (go_at_call 82; ((with_reducible refine calls_ext (l1Mul_any A B m e b1 o1 la ca b2 o2 lb cb S P _ (R11.out.ext _) hA hB))))
                        | (go_at_call 82; ((with_reducible refine calls_ext (l1Mul_any (P (A * m + B)) C m e b1 o1 la ca b2 o2 lb cb S P _ (R11.out.ext _) hPAB hC))))
                        | (go_at_call 82; ((with_reducible refine calls_ext (l1Mul_any B C m e b1 o1 la ca b2 o2 lb cb S P _ (R11.out.ext _) hB hC))))
                        | (go_at_call 82; ((with_reducible refine calls_ext (l1Mul_any A (P (B * m + C)) m e b1 o1 la ca b2 o2 lb cb S P _ (R11.out.ext _) hA hPBC))))
                        | (go_at_call 82; ((with_reducible refine calls_ext (l1Mul_any A (S (B * m + C)) m e b1 o1 la ca b2 o2 lb cb S P _ (R11.out.ext _) hA hSBC))))
                        | (go_at_call 82; ((with_reducible refine calls_ext (l1Mul_any A C m e b1 o1 la ca b2 o2 lb cb S P _ (R11.out.ext _) hA hC))))))))
            refine wpQuiet_nil ?_
            intro w12 hb
            obtain ⟨j0, j1, j2, j3, hs12⟩ := box4_next hb (by omega) (w1 := w12) l0 l1 l2 l3
            have X12 := Lib.hid (X11.out.trans (hb.mono (by omega)))
            have B12 := Lib.hid (B11.out.trans (hb.mono (by omega)))
            have R12 := Lib.hid (R11.out.next hb)
            clear hb
            go_wp2
            go_ret
            exact ⟨ret_bool (propB_false fun g => hPA (HK.out.1 (g k hlt')).2.1).symm, X12.out⟩
        · have thSA : (((S (S (A * m + B) * m + C) : Nat) : Int) != ((S (A * m + S (B * m + C)) : Nat) : Int)) = true := by rw [bne_iff_ne]; omega
          refine wp_region_ext (by kernel_rfl) (by kernel_rfl) ?_
          repeat (go_big_quiet_step (((first
                      | (go_at_call 81; ((with_reducible refine calls_ext (l1Add_any A B m e b1 o1 la ca b2 o2 lb cb S P _ (R10.out.ext _) hA hB))))
                      | (go_at_call 81; ((with_reducible refine calls_ext (l1Add_any (S (A * m + B)) C m e b1 o1 la ca b2 o2 lb cb S P _ (R10.out.ext _) hSAB hC))))
                      | (go_at_call 81; ((with_reducible refine calls_ext (l1Add_any B C m e b1 o1 la ca b2 o2 lb cb S P _ (R10.out.ext _) hB hC))))
                      | (go_at_call 81; ((with_reducible refine calls_ext (l1Add_any A (S (B * m + C)) m e b1 o1 la ca b2 o2 lb cb S P _ (R10.out.ext _) hA hSBC))))
                      | (go_at_call 81; ((with_reducible refine calls_ext (l1Add_any (P (A * m + B)) (P (A * m + C)) m e b1 o1 la ca b2 o2 lb cb S P _ (R10.out.ext _) hPAB hPAC))))
                      | (go_at_call 82; ((with_reducible refine calls_ext (l1Mul_any A B m e b1 o1 la ca b2 o2 lb cb S P _ (R10.out.ext _) hA hB))))
                      | (go_at_call 82; ((with_reducible refine calls_ext (l1Mul_any (P (A * m + B)) C m e b1 o1 la ca b2 o2 lb cb S P _ (R10.out.ext _) hPAB hC))))
                      | (go_at_call 82; ((with_reducible refine calls_ext (l1Mul_any B C m e b1 o1 la ca b2 o2 lb cb S P _ (R10.out.ext _) hB hC))))
                      | (go_at_call 82; ((with_reducible refine calls_ext (l1Mul_any A (P (B * m + C)) m e b1 o1 la ca b2 o2 lb cb S P _ (R10.out.ext _) hA hPBC))))
                      | (go_at_call 82; ((with_reducible refine calls_ext (l1Mul_any A (S (B * m + C)) m e b1 o1 la ca b2 o2 lb cb S P _ (R10.out.ext _) hA hSBC))))
                      | (go_at_call 82; ((with_reducible refine calls_ext (l1Mul_any A C m e b1 o1 la ca b2 o2 lb cb S P _ (R10.out.ext _) hA hC))))))))
          refine wpQuiet_nil ?_
          intro w11 hb
          obtain ⟨l0, l1, l2, l3, hs11⟩ := box4_next hb (by omega) (w1 := w11) y0 y1 y2 y3
          have X11 := Lib.hid (X10.out.trans (hb.mono (by omega)))
          have B11 := Lib.hid (B10.out.trans (hb.mono (by omega)))
          have R11 := Lib.hid (R10.out.next hb)
          clear hb
          go_wp2
          go_ret
          exact ⟨ret_bool (propB_false fun g => hSA (HK.out.1 (g k hlt')).1).symm, X11.out⟩
      · go_wp2
        go_ret
        exact ⟨ret_bool (propB_true fun j hj => HU.out j (by have := HT3.out; omega)).symm, X9.out⟩

end Go.Proofs.Ytpdonhoeimenjaa
