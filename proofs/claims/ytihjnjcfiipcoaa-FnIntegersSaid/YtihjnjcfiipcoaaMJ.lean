/- Texts of this seat in one: G3 G4 R1 R2 W9 E6. -/
import Derived.Test.YtihjnjcfiipcoaaMC
import Derived.Test.YtihjnjcfiipcoaaMF
import Derived.Test.YtihjnjcfiipcoaaMB

/- The methods of the making of the integers by a number. -/
namespace Go.Proofs.Ytihjnjcfiipcoaa
open Go.RowKit
set_option maxRecDepth 100000

theorem ibSize_any (m : Nat) (w : World) : Calls Try.prog 166 #[.agg #[.int .i64 m]] w fun e w' => e = .returned (.int .i64 m) ∧ Below w.heap.size w w' := by
  go_enter Try.func166, Try.ntmps166
  go_wp2
  go_ret
  exact ⟨rfl, (Below.refl _ _).alloc (Nat.le_refl _) _⟩
theorem ibOne_any (m : Nat) (hm : 1 ≤ m) (w : World) : Calls Try.prog 164 #[.agg #[.int .i64 m]] w fun e w' => e = .returned (.int .i64 ((1 % m : Nat) : Int)) ∧ Below w.heap.size w w' := by
  have h0 : ¬ m = 0 := by omega
  go_enter Try.func164, Try.ntmps164
  go_wp2
  go_ret
  exact ⟨by simp, (Below.refl _ _).alloc (Nat.le_refl _) _⟩
theorem ibElement_any (m : Nat) (x : Int) (w : World) : Calls Try.prog 162 #[.agg #[.int .i64 m], .int .i64 x] w fun e w' => e = .returned (.int .i64 x) ∧ Below w.heap.size w w' := by
  go_enter Try.func162, Try.ntmps162
  go_wp2
  go_ret
  exact ⟨rfl, (Below.refl _ _).alloc (Nat.le_refl _) _⟩
theorem ibNumber_any (m : Nat) (x : Int) (w : World) : Calls Try.prog 163 #[.agg #[.int .i64 m], .int .i64 x] w fun e w' => e = .returned (.int .i64 x) ∧ Below w.heap.size w w' := by
  go_enter Try.func163, Try.ntmps163
  go_wp2
  go_ret
  exact ⟨rfl, (Below.refl _ _).alloc (Nat.le_refl _) _⟩
theorem ibSum_any (m a b : Nat) (hm' : m ≤ 16) (ha : a < m) (hb : b < m) (w : World) : Calls Try.prog 167 #[.agg #[.int .i64 m], .int .i64 a, .int .i64 b] w fun e w' => e = .returned (.int .i64 (((a + b) % m : Nat) : Int)) ∧ Below w.heap.size w w' := by
  have h0 : ¬ m = 0 := by omega
  have h1 : (a : Int) + b ≤ 32 := by omega
  have hw1 : IntKind.i64.wrap ((a : Int) + b) = (a : Int) + b := IntWalk.i64_in _ (by omega)
  have hw2 : ((a : Int) + b).tmod m = (((a + b) % m : Nat) : Int) := by rw [Int.tmod_eq_emod_of_nonneg (by omega)]; simp
  go_enter Try.func167, Try.ntmps167
  go_wp2
  go_ret
  exact ⟨by simp, (Below.refl _ _).alloc (Nat.le_refl _) _⟩
theorem ibProduct_any (m a b : Nat) (hm' : m ≤ 16) (ha : a < m) (hb : b < m) (w : World) : Calls Try.prog 165 #[.agg #[.int .i64 m], .int .i64 a, .int .i64 b] w fun e w' => e = .returned (.int .i64 ((a * b % m : Nat) : Int)) ∧ Below w.heap.size w w' := by
  have h0 : ¬ m = 0 := by omega
  have hab : (a : Int) * b = ((a * b : Nat) : Int) := by simp
  have hab2 : a * b ≤ 16 * 16 := Nat.mul_le_mul (by omega) (by omega)
  have hw1 : IntKind.i64.wrap ((a : Int) * b) = (a : Int) * b := IntWalk.i64_in _ (by rw [hab]; omega)
  have hw2 : ((a : Int) * b).tmod m = ((a * b % m : Nat) : Int) := by rw [Int.tmod_eq_emod_of_nonneg (by rw [hab]; omega)]; simp
  have hab3 : (0 : Int) ≤ (a : Int) * b := by rw [hab]; omega
  have hab4 : (a : Int) * b ≤ 256 := by rw [hab]; omega
  clear hab hab2
  go_enter Try.func165, Try.ntmps165
  go_wp2
  go_ret
  exact ⟨by simp, (Below.refl _ _).alloc (Nat.le_refl _) _⟩

/-- What the walk of 'made' asks of a making: its methods, wherever the call stands. -/
structure Making (w0 : World) (mv : Value) (fsize fone felement fnumber fsum fproduct : Nat) (m o : Nat) (El : Nat → Value) (SV PV : Nat → Nat → Value) (S P : Nat → Nat → Nat) (oneV : Value) : Prop where
  size : ∀ w, Below w0.heap.size w0 w → Calls Try.prog fsize #[mv] w fun e w' => e = .returned (.int .i64 m) ∧ Below w.heap.size w w'
  one : ∀ w, Below w0.heap.size w0 w → Calls Try.prog fone #[mv] w fun e w' => e = .returned oneV ∧ Below w.heap.size w w'
  oneNum : ∀ w, Below w0.heap.size w0 w → Calls Try.prog fnumber #[mv, oneV] w fun e w' => e = .returned (.int .i64 o) ∧ Below w.heap.size w w'
  element : ∀ w, Below w0.heap.size w0 w → ∀ a, a < m → Calls Try.prog felement #[mv, .int .i64 a] w fun e w' => e = .returned (El a) ∧ Below w.heap.size w w'
  sum : ∀ w, Below w0.heap.size w0 w → ∀ a b, a < m → b < m → Calls Try.prog fsum #[mv, El a, El b] w fun e w' => e = .returned (SV a b) ∧ Below w.heap.size w w'
  product : ∀ w, Below w0.heap.size w0 w → ∀ a b, a < m → b < m → Calls Try.prog fproduct #[mv, El a, El b] w fun e w' => e = .returned (PV a b) ∧ Below w.heap.size w w'
  sumNum : ∀ w, Below w0.heap.size w0 w → ∀ a b, a < m → b < m → Calls Try.prog fnumber #[mv, SV a b] w fun e w' => e = .returned (.int .i64 (S a b)) ∧ Below w.heap.size w w'
  prodNum : ∀ w, Below w0.heap.size w0 w → ∀ a b, a < m → b < m → Calls Try.prog fnumber #[mv, PV a b] w fun e w' => e = .returned (.int .i64 (P a b)) ∧ Below w.heap.size w w'

end Go.Proofs.Ytihjnjcfiipcoaa


/- The program's maker of rings, at the integers by a number. -/
namespace Go.Proofs.Ytihjnjcfiipcoaa
open Go.RowKit
set_option maxRecDepth 100000

def tabZ (m : Nat) (f : Nat → Nat → Nat) (k : Nat) : List Int := (List.range k).map fun j => ((f (j / m) (j % m) : Nat) : Int)
theorem tabZ_succ {m k : Nat} {f : Nat → Nat → Nat} : tabZ m f (k + 1) = tabZ m f k ++ [((f (k / m) (k % m) : Nat) : Int)] := by simp [tabZ, List.range_succ]

def madePhi (D m : Nat) (i : Nat) (v : Value) (w : World) : Prop :=
  if i = 17 then ∃ g, v = .pointer (some ⟨g, 0, none⟩) ∧ D ≤ g ∧ Blk w g 25 #[.int .i64 0, .int .i64 0, .slice none 0 0, .slice none 0 0]
  else ∃ g, v = .slice (some ⟨g, 0, none⟩) 0 (m * m) ∧ D ≤ g ∧ Blk w g 3 (madeCells #[.int .i64 0] (m * m))
theorem madePhi_stable {D m : Nat} (i : Nat) (v : Value) (w w' : World) (h : madePhi D m i v w) (hb : Below w.heap.size w w') : madePhi D m i v w' := by
  unfold madePhi at *
  split
  · rename_i e
    rw [if_pos e] at h
    obtain ⟨g, h1, h2, h3⟩ := h
    exact ⟨g, h1, h2, h3.below hb h3.lt⟩
  · rename_i e
    rw [if_neg e] at h
    obtain ⟨g, h1, h2, h3⟩ := h
    exact ⟨g, h1, h2, h3.below hb h3.lt⟩
def madeSh (m : Nat) (i : Nat) (v : Value) : Prop := if i = 17 then ∃ g, v = .pointer (some ⟨g, 0, none⟩) else ∃ g, v = .slice (some ⟨g, 0, none⟩) 0 (m * m)
theorem madeSh_of {D m : Nat} (i : Nat) (v : Value) (w : World) (h : madePhi D m i v w) : madeSh m i v := by
  unfold madePhi at h
  unfold madeSh
  split <;> rename_i e
  · rw [if_pos e] at h
    exact ⟨h.choose, h.choose_spec.1⟩
  · rw [if_neg e] at h
    exact ⟨h.choose, h.choose_spec.1⟩
def madeMk (i : Nat) : Bool := i == 11 || i == 15 || i == 17

theorem ib_size (n : Int) (w : World) : (method 268 86 (.agg #[.int .i64 n]) "loop.example/finiterings/impl.size").run Try.prog w = .ok (166, .agg #[.int .i64 n]) w := by kernel_rfl
theorem ib_one (n : Int) (w : World) : (method 268 86 (.agg #[.int .i64 n]) "loop.example/finiterings/impl.one").run Try.prog w = .ok (164, .agg #[.int .i64 n]) w := by kernel_rfl
theorem ib_element (n : Int) (w : World) : (method 268 86 (.agg #[.int .i64 n]) "loop.example/finiterings/impl.element").run Try.prog w = .ok (162, .agg #[.int .i64 n]) w := by kernel_rfl
theorem ib_number (n : Int) (w : World) : (method 268 86 (.agg #[.int .i64 n]) "loop.example/finiterings/impl.number").run Try.prog w = .ok (163, .agg #[.int .i64 n]) w := by kernel_rfl
theorem ib_sum (n : Int) (w : World) : (method 268 86 (.agg #[.int .i64 n]) "loop.example/finiterings/impl.sum").run Try.prog w = .ok (167, .agg #[.int .i64 n]) w := by kernel_rfl
theorem ib_product (n : Int) (w : World) : (method 268 86 (.agg #[.int .i64 n]) "loop.example/finiterings/impl.product").run Try.prog w = .ok (165, .agg #[.int .i64 n]) w := by kernel_rfl
theorem ib_ahead (n : Int) (w : World) : (nilAhead 268 86 (.agg #[.int .i64 n]) "loop.example/finiterings/impl.number").run Try.prog w = .ok (some false) w := by kernel_rfl

theorem idx_parts {m a b : Nat} (hb : b < m) : (a * m + b) / m = a ∧ (a * m + b) % m = b := by
  have hm : 0 < m := by omega
  refine ⟨?_, ?_⟩
  · rw [Nat.mul_comm, Nat.mul_add_div hm, Nat.div_eq_of_lt hb, Nat.add_zero]
  · rw [Nat.mul_comm, Nat.mul_add_mod, Nat.mod_eq_of_lt hb]
theorem tabZ_at {m a b : Nat} {f : Nat → Nat → Nat} (hb : b < m) : tabZ m f (a * m + b + 1) = tabZ m f (a * m + b) ++ [((f a b : Nat) : Int)] := by
  obtain ⟨e1, e2⟩ := idx_parts (a := a) hb
  rw [tabZ_succ, e1, e2]

set_option maxHeartbeats 8000000 in
theorem madeIb_any (n : Int) (m o : Nat) (El : Nat → Value) (SV PV : Nat → Nat → Value) (S P : Nat → Nat → Nat) (oneV : Value) (hm : 1 ≤ m) (hm' : m ≤ 16) (w : World)
    (hM : Making w (.agg #[.int .i64 n]) 166 164 162 163 167 165 m o El SV PV S P oneV) :
    Calls Try.prog 84 #[.iface 86 (.agg #[.int .i64 n])] w fun e w' => ∃ v, e = .returned v ∧ NewRing w.heap.size w' v m o (m * m) (tabZ m S (m * m)) (tabZ m P (m * m)) ∧ Below w.heap.size w w' := by
  obtain ⟨i0, hi, hz0, hz1, hz2⟩ := info_parts int_info
  obtain ⟨s1, s2, s3, s4⟩ := sqI hm'
  have S3 := Lib.hid s3
  have MK := Lib.hid hM
  clear s3 hM
  have hmm : m * m ≤ 256 := s4
  have q1 := ib_size n
  have q2 := ib_one n
  have q3 := ib_element n
  have q4 := ib_number n
  have q5 := ib_sum n
  have q6 := ib_product n
  have q7 := ib_ahead n
  have b0 : Below w.heap.size w (w.alloc (.cells #[.int .i64 0, .int .i64 0, .slice none 0 0, .slice none 0 0] 25)) := (Below.refl _ _).alloc (Nat.le_refl _) _
  have k0 := Blk.new w 25 #[.int .i64 0, .int .i64 0, .slice none 0 0, .slice none 0 0]
  have K0 := Lib.hid k0
  have B0 := Lib.hid b0
  clear k0 b0
  go_enter Try.func84, Try.ntmps84
  go_wp2_with (go_at_call 166; refine (MK.out.size _ B0.out).mono ?_; rintro e1 w1 ⟨rfl, hb1⟩)
  have K1 := Lib.hid (K0.out.below hb1 K0.out.lt)
  have B1 := Lib.hid (B0.out.trans (hb1.mono (by simp)))
  have hs1 := hb1.size
  clear hb1
  have hmz : IntKind.i64.wrap ((m : Int) * m) = (m : Int) * m := IntWalk.i64_in _ (by omega)
  refine wp_region_makers 18 madeMk (madePhi (w.heap.size + 1) m) (madeSh m) (fun i => if i = 17 then .pointer (some ⟨0, 0, none⟩) else .slice (some ⟨0, 0, none⟩) 0 (m * m)) probe (by kernel_rfl) (by kernel_rfl) madePhi_stable (fun i v x _ => madeSh_of i v x)
    (fun i _ => by unfold madeSh; split <;> simp) ?_
  intro W hW vs hvs
  obtain ⟨g1, e1⟩ : ∃ g, vs 11 = .slice (some ⟨g, 0, none⟩) 0 (m * m) := hvs 11 rfl
  obtain ⟨g2, e2⟩ : ∃ g, vs 15 = .slice (some ⟨g, 0, none⟩) 0 (m * m) := hvs 15 rfl
  obtain ⟨bx, e3⟩ : ∃ g, vs 17 = .pointer (some ⟨g, 0, none⟩) := hvs 17 rfl
  have BW := Lib.hid (B1.out.trans (hW.mono B1.out.size))
  have cW : ∃ x, extC W x := ⟨W, extC_of (Below.refl _ _)⟩
  have big : ∀ x, extC W x → w.heap.size + 1 ≤ x.heap.size := fun x ⟨u, hu⟩ => by rw [hu]; exact Nat.le_trans (Nat.le_trans K1.out.lt hW.size) (ext_size W u)
  simp only [List.take_succ_cons, List.take_zero, List.drop_succ_cons, List.drop_zero]
  refine wpV_quiet cW 11 0 _ _ (by decide) (by decide) ?_
  simp only [List.take_succ_cons, List.take_zero, List.drop_succ_cons, List.drop_zero]
  repeat (go_big_quiet_step (first
      | (go_at_call 164; with_reducible refine calls_ext (MK.out.one _ ?_); exact BW.out.trans ((ext_below _ _).mono BW.out.size))
      | (go_at_call 163; with_reducible refine calls_ext (MK.out.oneNum _ ?_); exact BW.out.trans ((ext_below _ _).mono BW.out.size))))
  refine wpQuiet_nil ?_
  refine wpV_make' rfl rfl (fun x hx => makesAt_mono (makes_row _ _ 0 (m * m) _ _ rfl rfl (by rw [← S3.out]; rfl) (Nat.zero_le _) (by omega) x) fun v x' ⟨g, h1, h2, h3⟩ => ⟨g, h1, Nat.le_trans (big x hx) h2, h3⟩) ?_
  rw [e1]
  go_simp
  refine wpV_quiet cW 3 _ _ _ (by decide) (by decide) ?_
  simp only [List.take_succ_cons, List.take_zero, List.drop_succ_cons, List.drop_zero]
  repeat (go_big_quiet_step (fail))
  refine wpQuiet_nil ?_
  refine wpV_make' rfl rfl (fun x hx => makesAt_mono (makes_row _ _ 0 (m * m) _ _ rfl rfl (by rw [← S3.out]; rfl) (Nat.zero_le _) (by omega) x) fun v x' ⟨g, h1, h2, h3⟩ => ⟨g, h1, Nat.le_trans (big x hx) h2, h3⟩) ?_
  rw [e2]
  go_simp
  refine wpV_quiet cW 1 _ _ _ (by decide) (by decide) ?_
  simp only [List.take_succ_cons, List.take_zero, List.drop_succ_cons, List.drop_zero]
  repeat (go_big_quiet_step (fail))
  refine wpQuiet_nil ?_
  refine wpV_make' rfl rfl (fun x hx => makesAt_mono (makes_box rfl x) fun v x' ⟨g, h1, h2, h3⟩ => ⟨g, h1, Nat.le_trans (big x hx) h2, h3⟩) ?_
  rw [e3]
  go_simp
  refine wpV_nil ?_
  intro w2 hb2 hfacts hapart
  have n12 : g1 ≠ g2 := fun e => hapart 11 15 (by omega) (by omega) (by omega) rfl rfl g1 (by rw [e1]; rfl) (by rw [e2, e]; rfl)
  obtain ⟨d1, r1⟩ : w.heap.size + 1 ≤ g1 ∧ Blk w2 g1 3 (madeCells #[.int .i64 0] (m * m)) := by
    obtain ⟨g, h1, h2, h3⟩ := hfacts 11 (by omega) rfl
    rw [e1] at h1
    simp at h1
    subst h1
    exact ⟨h2, h3⟩
  obtain ⟨d2, r2⟩ : w.heap.size + 1 ≤ g2 ∧ Blk w2 g2 3 (madeCells #[.int .i64 0] (m * m)) := by
    obtain ⟨g, h1, h2, h3⟩ := hfacts 15 (by omega) rfl
    rw [e2] at h1
    simp at h1
    subst h1
    exact ⟨h2, h3⟩
  obtain ⟨d3, r3⟩ : w.heap.size + 1 ≤ bx ∧ Blk w2 bx 25 #[.int .i64 0, .int .i64 0, .slice none 0 0, .slice none 0 0] := by
    obtain ⟨g, h1, h2, h3⟩ := hfacts 17 (by omega) rfl
    rw [e3] at h1
    simp at h1
    subst h1
    exact ⟨h2, h3⟩
  clear hfacts hapart hvs e1 e2 e3
  have nb1 : g1 ≠ bx := blk_ne (t := 3) (t' := 25) r1 r3 (by decide)
  have nb2 : g2 ≠ bx := blk_ne (t := 3) (t' := 25) r2 r3 (by decide)
  have c0 := r3.cell 0
  have c1 := r3.cell 1
  have c2 := r3.cell 2
  have c3 := r3.cell 3
  have f0 := r3.frozen 0
  have f1 := r3.frozen 1
  have f2 := r3.frozen 2
  have f3 := r3.frozen 3
  simp at c0 c1 c2 c3
  go_wp2_with (fail)
  obtain ⟨V, hV⟩ : ∃ V, store4 w2 bx (.int .i64 m) (.int .i64 o) (.slice (some ⟨g1, 0, none⟩) 0 (m * m)) (.slice (some ⟨g2, 0, none⟩) 0 (m * m)) = V := ⟨_, rfl⟩
  have hV' := hV
  unfold store4 at hV'
  have gv : Grow (w.heap.size + 1) V bx m o (.slice (some ⟨g1, 0, none⟩) 0 (m * m)) (.slice (some ⟨g2, 0, none⟩) 0 (m * m)) 0 0 [] [] := by
    subst hV
    exact ⟨store4_blk r3, d3, store4_own (own_of_blk r1 d1 (by omega)) (by simpa [Value.ownBlock] using nb1), store4_own (own_of_blk r2 d2 (by omega)) (by simpa [Value.ownBlock] using nb2), by simpa [Value.ownBlock] using nb1, by simpa [Value.ownBlock] using nb2, by
      intro g h1 h2
      simp [Value.ownBlock] at h1 h2
      omega⟩
  have bv : Below w1.heap.size w1 w2 := hb2
  have bV : Below (w.heap.size + 1) w1 V := by subst hV; exact store4_below (bv.mono K1.out.lt) d3
  rw [hV']
  clear hV hV' c0 c1 c2 c3 f0 f1 f2 f3 r1 r2 r3 hb2 bv BW cW big hW
  have GV := Lib.hid gv
  have BV := Lib.hid bV
  clear gv bV
  go_loopw [29] (fun i wr => ∃ (a : Nat) (v2 v3 : Value), a ≤ m ∧ i = .int .i64 a ∧ Grow (w.heap.size + 1) wr bx m o v2 v3 (a * m) (a * m) (tabZ m S (a * m)) (tabZ m P (a * m)) ∧ Below (w.heap.size + 1) V wr) (fun i _ => m - (intOf i).toNat)
  case atStart => exact ⟨0, _, _, Nat.zero_le _, rfl, by simpa [tabZ] using GV.out, Below.refl _ _⟩
  case round =>
    obtain ⟨a, v2, v3, ha, rfl, hg, hb⟩ := hrel
    have GR := Lib.hid hg
    have BR := Lib.hid hb
    clear hg hb
    by_cases hlt : a < m
    · have hBw : Below w.heap.size w wr := B1.out.trans ((BV.out.trans BR.out).mono (by omega))
      go_wp2_with (go_at_call 162; refine (MK.out.element _ hBw a hlt).mono ?_; rintro e3 w3 ⟨rfl, hb3⟩)
      have G3 := Lib.hid (GR.out.keep hb3)
      have B3 := Lib.hid (BR.out.trans (hb3.mono (Nat.le_of_lt (Nat.lt_of_le_of_lt GR.out.hD GR.out.box.lt))))
      clear hb3 hBw
      go_loopw [36] (fun i wr => ∃ (b : Nat) (v2 v3 : Value), b ≤ m ∧ i = .int .i64 b ∧ Grow (w.heap.size + 1) wr bx m o v2 v3 (a * m + b) (a * m + b) (tabZ m S (a * m + b)) (tabZ m P (a * m + b)) ∧ Below (w.heap.size + 1) V wr) (fun i _ => m - (intOf i).toNat)
      case atStart => exact ⟨0, _, _, Nat.zero_le _, rfl, G3.out, B3.out⟩
      case round =>
        obtain ⟨b, v2, v3, hb, rfl, hg, hbl⟩ := hrel
        have GR := Lib.hid hg
        have BR := Lib.hid hbl
        clear hg hbl
        by_cases hlt2 : b < m
        · have hBw : Below w.heap.size w wr := B1.out.trans ((BV.out.trans BR.out).mono (by omega))
          go_wp2_with (go_at_call 162; refine (MK.out.element _ hBw b hlt2).mono ?_; rintro e4 wd ⟨rfl, hb4⟩)
          have gd := GR.out.keep hb4
          have bd : Below w.heap.size w wd := hBw.trans (hb4.mono hBw.size)
          have GD := Lib.hid gd
          have BD := Lib.hid bd
          have BE := Lib.hid (BR.out.trans (hb4.mono (Nat.le_of_lt (Nat.lt_of_le_of_lt GR.out.hD GR.out.box.lt))))
          have hlx : bx < wd.heap.size := gd.box.lt
          have hq0 : w.heap.size ≤ wd.heap.size := bd.size
          have hq : w.heap.size ≤ wd.heap.size := bd.size
          have hqD : w.heap.size + 1 ≤ wd.heap.size := Nat.le_of_lt (Nat.lt_of_le_of_lt gd.hD gd.box.lt)
          clear hb4 hBw gd bd
          have hk0 : a * m + b < m * m := by
            have : (a + 1) * m ≤ m * m := Nat.mul_le_mul_right _ hlt
            rw [Nat.succ_mul] at this
            omega
          have hkk : (a * m + b) + 1 ≤ maxLen := by unfold maxLen; omega
          have hbt : ((a * m + b) + 1) * 8 ≤ 140737488355328 := by omega
          have GWA := Lib.hid GD.out
          have nnA : v2.ownBlock ≠ some bx := GD.out.n2
          go_wp2_with (fail)
          refine wp_region_makers 12 (fun i => i == 11) (appPhi (w.heap.size + 1) (.int .i64 (S a b : Nat))) appSh (fun _ => .slice (some ⟨0, 0, none⟩) 1 1) probe (by kernel_rfl) (by kernel_rfl) appPhi_stable (fun i v x _ => appSh_of i v x) (fun _ _ => ⟨0, rfl⟩) ?_
          intro W1 hW1 vsA hvsA
          obtain ⟨h1A, e1A⟩ : ∃ g, vsA 11 = .slice (some ⟨g, 0, none⟩) 1 1 := hvsA 11 rfl
          have BWA := Lib.hid (BD.out.trans (hW1.mono hq))
          have cWA : ∃ x, extC W1 x := ⟨W1, extC_of (Below.refl _ _)⟩
          have bigA : ∀ x, extC W1 x → w.heap.size + 1 ≤ x.heap.size := fun x ⟨u, hu⟩ => by rw [hu]; exact Nat.le_trans (Nat.le_trans hqD hW1.size) (ext_size W1 u)
          have cA := (GD.out.keep hW1).box.cell 2
          simp at cA
          simp only [List.take_succ_cons, List.take_zero, List.drop_succ_cons, List.drop_zero]
          refine wpV_quiet cWA 11 0 _ _ (by decide) (by decide) ?_
          simp only [List.take_succ_cons, List.take_zero, List.drop_succ_cons, List.drop_zero]
          repeat (go_big_quiet_step (first
              | (go_at_call 167; with_reducible refine calls_ext (MK.out.sum _ ?_ a b hlt hlt2); exact BWA.out.trans ((ext_below _ _).mono BWA.out.size))
              | (go_at_call 163; with_reducible refine calls_ext (MK.out.sumNum _ ?_ a b hlt hlt2); exact BWA.out.trans ((ext_below _ _).mono BWA.out.size))))
          refine wpQuiet_nil ?_
          refine wpV_make' rfl rfl (fun x hx => makesAt_mono (makes_one _ _ rfl rfl x) fun v x' ⟨g, p1, p2, p3⟩ => ⟨g, p1, Nat.le_trans (bigA x hx) p2, p3⟩) ?_
          rw [e1A]
          go_simp
          refine wpV_nil ?_
          intro wm hbA hfactsA _
          obtain ⟨gA, q1A, _, r1A⟩ := hfactsA 11 (by omega) rfl
          have egA : gA = h1A := by rw [e1A] at q1A; simp at q1A; exact q1A.symm
          subst egA
          have gkA := GD.out.keep hbA
          refine wpList_append_lies _ rfl _ _ _ rfl (w.heap.size + 1) 3 i0 _ 1 8 Try.underlying23 hi hz0 hz1 hz2 rfl (by omega) v2 (a * m + b) _ rfl gkA.o2 ⟨gA, 0, none⟩ 1 1 _ rfl rfl (World.news_of_block r1A) (by simp [Value.oneCell']) (by omega) hkk hbt (Nat.le_trans hqD hbA.size) _ rfl ?_
          intro gg cap w7 hownA hgrowA hatA _
          have ffA : w7.frozen? ⟨bx, 2, none⟩ = false := by rw [hgrowA.frozen_far _ gkA.box.lt (Ne.symm nnA)]; exact gkA.box.frozen 2
          have ccA : w7.cell? ⟨bx, 2, none⟩ = some v2 := by rw [hgrowA.cell_far _ gkA.box.lt (Ne.symm nnA)]; exact gkA.box.cell 2
          obtain ⟨gpA, bpA⟩ := gkA.put2 hownA hgrowA hatA
          go_wp2_with (fail)
          have GP0 := Lib.hid gpA
          have BP0 := Lib.hid (BE.out.trans ((hbA.mono hqD).trans bpA))
          clear gpA bpA hownA hgrowA hatA ffA ccA gkA hbA hfactsA q1A r1A cA nnA GWA BWA cWA bigA hW1 hvsA
          obtain ⟨we, hwe⟩ : ∃ we, w7.setCell ⟨bx, 2, none⟩ (.slice (some ⟨gg, 0, none⟩) (a * m + b + 1) cap) = we := ⟨_, rfl⟩
          rw [hwe] at GP0 BP0 ⊢
          clear hwe
          have GP := Lib.hid GP0.out
          have BP := Lib.hid (B1.out.trans ((BV.out.trans BP0.out).mono (Nat.le_succ _)))
          have hq3 : w.heap.size ≤ we.heap.size := BP.out.size
          have hqD3 : w.heap.size + 1 ≤ we.heap.size := Nat.le_of_lt (Nat.lt_of_le_of_lt GP.out.hD GP.out.box.lt)
          have GWB := Lib.hid GP.out
          have nnB : v3.ownBlock ≠ some bx := GP.out.n3
          go_wp2_with (fail)
          refine wp_region_makers 12 (fun i => i == 11) (appPhi (w.heap.size + 1) (.int .i64 (P a b : Nat))) appSh (fun _ => .slice (some ⟨0, 0, none⟩) 1 1) probe (by kernel_rfl) (by kernel_rfl) appPhi_stable (fun i v x _ => appSh_of i v x) (fun _ _ => ⟨0, rfl⟩) ?_
          intro W2 hW2 vsB hvsB
          obtain ⟨h1B, e1B⟩ : ∃ g, vsB 11 = .slice (some ⟨g, 0, none⟩) 1 1 := hvsB 11 rfl
          have BWB := Lib.hid (BP.out.trans (hW2.mono hq3))
          have cWB : ∃ x, extC W2 x := ⟨W2, extC_of (Below.refl _ _)⟩
          have bigB : ∀ x, extC W2 x → w.heap.size + 1 ≤ x.heap.size := fun x ⟨u, hu⟩ => by rw [hu]; exact Nat.le_trans (Nat.le_trans hqD3 hW2.size) (ext_size W2 u)
          have cB := (GP.out.keep hW2).box.cell 3
          simp at cB
          simp only [List.take_succ_cons, List.take_zero, List.drop_succ_cons, List.drop_zero]
          refine wpV_quiet cWB 11 0 _ _ (by decide) (by decide) ?_
          simp only [List.take_succ_cons, List.take_zero, List.drop_succ_cons, List.drop_zero]
          repeat (go_big_quiet_step (first
              | (go_at_call 165; with_reducible refine calls_ext (MK.out.product _ ?_ a b hlt hlt2); exact BWB.out.trans ((ext_below _ _).mono BWB.out.size))
              | (go_at_call 163; with_reducible refine calls_ext (MK.out.prodNum _ ?_ a b hlt hlt2); exact BWB.out.trans ((ext_below _ _).mono BWB.out.size))))
          refine wpQuiet_nil ?_
          refine wpV_make' rfl rfl (fun x hx => makesAt_mono (makes_one _ _ rfl rfl x) fun v x' ⟨g, p1, p2, p3⟩ => ⟨g, p1, Nat.le_trans (bigB x hx) p2, p3⟩) ?_
          rw [e1B]
          go_simp
          refine wpV_nil ?_
          intro wn hbB hfactsB _
          obtain ⟨gB, q1B, _, r1B⟩ := hfactsB 11 (by omega) rfl
          have egB : gB = h1B := by rw [e1B] at q1B; simp at q1B; exact q1B.symm
          subst egB
          have gkB := GP.out.keep hbB
          refine wpList_append_lies _ rfl _ _ _ rfl (w.heap.size + 1) 3 i0 _ 1 8 Try.underlying23 hi hz0 hz1 hz2 rfl (by omega) v3 (a * m + b) _ rfl gkB.o3 ⟨gB, 0, none⟩ 1 1 _ rfl rfl (World.news_of_block r1B) (by simp [Value.oneCell']) (by omega) hkk hbt (Nat.le_trans hqD3 hbB.size) _ rfl ?_
          intro g9 cap9 w8 hownB hgrowB hatB _
          have ffB : w8.frozen? ⟨bx, 3, none⟩ = false := by rw [hgrowB.frozen_far _ gkB.box.lt (Ne.symm nnB)]; exact gkB.box.frozen 3
          have ccB : w8.cell? ⟨bx, 3, none⟩ = some v3 := by rw [hgrowB.cell_far _ gkB.box.lt (Ne.symm nnB)]; exact gkB.box.cell 3
          obtain ⟨gpB, bpB⟩ := gkB.put3 hownB hgrowB hatB
          go_wp2_with (fail)
          have GQ := Lib.hid gpB
          have BQ := Lib.hid (BP0.out.trans ((hbB.mono hqD3).trans bpB))
          clear gpB bpB hownB hgrowB hatB ffB ccB gkB hbB hfactsB q1B r1B cB nnB GWB BWB cWB bigB hW2 hvsB
          obtain ⟨wf, hwf⟩ : ∃ wf, w8.setCell ⟨bx, 3, none⟩ (.slice (some ⟨g9, 0, none⟩) (a * m + b + 1) cap9) = wf := ⟨_, rfl⟩
          rw [hwf] at GQ BQ ⊢
          clear hwf
          go_wp2
          go_roundw
          case rel => exact ⟨b + 1, _, _, by omega, by go_num, by
            have := GQ.out
            rw [← tabZ_at hlt2, ← tabZ_at hlt2] at this
            exact this, BQ.out⟩
          case measure => simp [intOf]; omega
        · have hbm : b = m := by omega
          subst hbm
          go_wp2
          go_roundw
          case rel => exact ⟨a + 1, v2, v3, by omega, by go_num, by rw [Nat.succ_mul]; exact GR.out, BR.out⟩
          case measure => simp [intOf]; omega
    · have ham : a = m := by omega
      subst ham
      have hpos : 0 < a * a := Nat.mul_pos hm hm
      obtain ⟨h2, cap2, e2, _, _⟩ := GR.out.o2.form hpos
      obtain ⟨h3, cap3, e3, _, _⟩ := GR.out.o3.form hpos
      subst e2 e3
      have ZR := Lib.hid ((K1.out.below (BV.out) (Nat.lt_succ_self _)).below BR.out (Nat.lt_succ_self _))
      have c0 := GR.out.box.cell 0
      have c1 := GR.out.box.cell 1
      have c2 := GR.out.box.cell 2
      have c3 := GR.out.box.cell 3
      have d0 := ZR.out.cell 0
      have d1 := ZR.out.cell 1
      have d2 := ZR.out.cell 2
      have d3 := ZR.out.cell 3
      have f0 := ZR.out.frozen 0
      have f1 := ZR.out.frozen 1
      have f2 := ZR.out.frozen 2
      have f3 := ZR.out.frozen 3
      simp at c0 c1 c2 c3 d0 d1 d2 d3
      go_wp2
      refine bodyPost_ret (v := .agg #[.int .i64 a, .int .i64 o, .slice (some ⟨h2, 0, none⟩) (a * a) cap2, .slice (some ⟨h3, 0, none⟩) (a * a) cap3]) ?_ rfl ⟨_, rfl, ?_, ?_⟩
      · exact results_cell_row Try.results84 _ _ w.heap.size 25 _ (0, 0) _ rfl (store4_blk ZR.out) Try.underlying25 rfl (by kernel_rfl)
      · exact (GR.out.result ZR.out (by decide)).mono (Nat.le_succ _)
      · exact store4_below (B1.out.trans ((BV.out.trans BR.out).mono (Nat.le_succ _))) (Nat.le_refl _)

end Go.Proofs.Ytihjnjcfiipcoaa


/- Integers of both sides. -/
namespace Go.Proofs.Ytihjnjcfiipcoaa
open Go.RowKit
set_option maxRecDepth 100000

theorem making_ib (m : Nat) (hm : 1 ≤ m) (hm' : m ≤ 16) (w0 : World) : Making w0 (.agg #[.int .i64 m]) 166 164 162 163 167 165
    m (1 % m) (fun a => .int .i64 a) (fun a b => .int .i64 (((a + b) % m : Nat) : Int)) (fun a b => .int .i64 ((a * b % m : Nat) : Int)) (fun a b => (a + b) % m) (fun a b => a * b % m) (.int .i64 ((1 % m : Nat) : Int)) :=
  ⟨fun w _ => ibSize_any m w, fun w _ => ibOne_any m hm w, fun w _ => ibNumber_any m _ w, fun w _ a _ => ibElement_any m a w, fun w _ a b ha hb => ibSum_any m a b hm' ha hb w, fun w _ a b ha hb => ibProduct_any m a b hm' ha hb w,
    fun w _ _ _ _ _ => ibNumber_any m _ w, fun w _ _ _ _ _ => ibNumber_any m _ w⟩

theorem tabZ_length {m k : Nat} {f : Nat → Nat → Nat} : (tabZ m f k).length = k := by simp [tabZ]
theorem addZ_tab {m k : Nat} : addZ m k = tabZ m (fun a b => (a + b) % m) k := rfl
theorem mulZ_tab {m k : Nat} : mulZ m k = tabZ m (fun a b => a * b % m) k := rfl

/-- What Integers hands back. -/
def intOk (x : Int) : Bool := decide (1 ≤ x) && decide (x ≤ 16)
def intN (x : Int) : Int := if intOk x then x else 0
def intO (x : Int) : Int := if intOk x then ((1 % x.toNat : Nat) : Int) else 0
def intX (x : Int) : List Int := if intOk x then tabZ x.toNat (fun a b => (a + b) % x.toNat) (x.toNat * x.toNat) else []
def intY (x : Int) : List Int := if intOk x then tabZ x.toNat (fun a b => a * b % x.toNat) (x.toNat * x.toNat) else []

theorem sq16 {m : Nat} (hm' : m ≤ 16) : m * m ≤ 1000 := by
  have h2 : m * m ≤ 16 * 16 := Nat.mul_le_mul hm' hm'
  omega

set_option maxHeartbeats 2000000 in
theorem implIntegers_any (x : Int) (w : World) :
    Calls Try.prog 25 #[.int .i64 x] w fun e w' => ∃ v, e = .returned (.tuple #[v, .bool (intOk x)]) ∧ RingOut w.heap.size w' v (intN x) (intO x) (intX x) (intY x) ∧ Below w.heap.size w w' := by
  have b0 : Below w.heap.size w (w.alloc (.cells #[.int .i64 0, .int .i64 0, .slice none 0 0, .slice none 0 0] 25)) := (Below.refl _ _).alloc (Nat.le_refl _) _
  have k0 := Blk.new w 25 #[.int .i64 0, .int .i64 0, .slice none 0 0, .slice none 0 0]
  by_cases hx : 1 ≤ x ∧ x ≤ 16
  · obtain ⟨m, rfl⟩ : ∃ m : Nat, x = m := ⟨x.toNat, by omega⟩
    have e : intOk (m : Int) = true := by simp [intOk]; omega
    have hm : 1 ≤ m := by omega
    have hm' : m ≤ 16 := by omega
    simp only [intN, intO, intX, intY, e, if_true, Int.toNat_natCast]
    have B0 := Lib.hid b0
    have K0 := Lib.hid k0
    clear b0 k0 e
    go_enter Try.func25, Try.ntmps25
    go_wp2_with (go_at_call 84; refine (madeIb_any m m _ _ _ _ _ _ _ hm hm' _ (making_ib m hm hm' _)).mono ?_; rintro e1 w1 ⟨v, rfl, hn, hb1⟩; obtain ⟨A, la, ca, B, lb, cb, rfl, oA, oB, hr⟩ := hn.out (sq16 hm') tabZ_length tabZ_length; have OA := Lib.hid oA; have OB := Lib.hid oB; have HR := Lib.hid hr; have K1 := Lib.hid (K0.out.below hb1 K0.out.lt); have B1 := Lib.hid (B0.out.trans (hb1.mono B0.out.size)); clear hn hb1 oA oB hr; have d0 := K1.out.cell 0; have d1 := K1.out.cell 1; have d2 := K1.out.cell 2; have d3 := K1.out.cell 3; have f0 := K1.out.frozen 0; have f1 := K1.out.frozen 1; have f2 := K1.out.frozen 2; have f3 := K1.out.frozen 3; simp at d0 d1 d2 d3)
    refine bodyPost_ret (v := .tuple #[.agg #[.int .i64 m, .int .i64 ((1 % m : Nat) : Int), .slice A la ca, .slice B lb cb], .bool true]) ?_ rfl ⟨_, rfl, ?_, ?_⟩
    · exact results_cell_flag rfl _ _ w.heap.size 25 _ _ _ rfl rfl (store4_blk K1.out) Try.underlying25 rfl (by kernel_rfl)
    · have hD : w.heap.size + 1 ≤ (w.alloc (.cells #[.int .i64 0, .int .i64 0, .slice none 0 0, .slice none 0 0] 25)).heap.size := by simp
      exact RingOut.lower (store4_out ⟨A, la, ca, B, lb, cb, rfl, OA.out.lower hD, OB.out.lower hD, HR.out⟩ (Nat.lt_succ_self _)) (Nat.le_succ _)
    · exact store4_below B1.out (Nat.le_refl _)
  · have e : intOk x = false := by simp [intOk]; omega
    simp only [intN, intO, intX, intY, e, Bool.false_eq_true, if_false]
    have B0 := Lib.hid b0
    have K0 := Lib.hid k0
    have d0 := K0.out.cell 0
    have d1 := K0.out.cell 1
    have d2 := K0.out.cell 2
    have d3 := K0.out.cell 3
    have f0 := K0.out.frozen 0
    have f1 := K0.out.frozen 1
    have f2 := K0.out.frozen 2
    have f3 := K0.out.frozen 3
    have tt : (decide (x < 1) || decide (16 < x)) = true := by simp; omega
    simp at d0 d1 d2 d3
    clear b0 k0
    go_enter Try.func25, Try.ntmps25
    go_wp2
    all_goals
      refine bodyPost_ret (v := .tuple #[.agg #[.int .i64 0, .int .i64 0, .slice none 0 0, .slice none 0 0], .bool false]) ?_ rfl ⟨_, rfl, RingOut.zero, B0.out⟩
      exact results_cell_flag rfl _ _ w.heap.size 25 _ _ _ rfl rfl K0.out Try.underlying25 rfl (by kernel_rfl)

set_option maxHeartbeats 2000000 in
theorem specIntegers_any (x : Int) (w : World) :
    Calls Try.prog 26 #[.int .i64 x] w fun e w' => ∃ v, e = .returned (.tuple #[v, .bool (intOk x)]) ∧ RingOut w.heap.size w' v (intN x) (intO x) (intX x) (intY x) ∧ Below w.heap.size w w' := by
  have b0 : Below w.heap.size w (w.alloc (.cells #[.int .i64 0, .int .i64 0, .slice none 0 0, .slice none 0 0] 25)) := (Below.refl _ _).alloc (Nat.le_refl _) _
  have k0 := Blk.new w 25 #[.int .i64 0, .int .i64 0, .slice none 0 0, .slice none 0 0]
  by_cases hx : 1 ≤ x ∧ x ≤ 16
  · obtain ⟨m, rfl⟩ : ∃ m : Nat, x = m := ⟨x.toNat, by omega⟩
    have e : intOk (m : Int) = true := by simp [intOk]; omega
    have e2 := Lib.hid (show inC (m : Int) 1 16 = true by simp [inC]; omega)
    have hm : 1 ≤ m := by omega
    have hm' : m ≤ 16 := by omega
    simp only [intN, intO, intX, intY, e, if_true, Int.toNat_natCast]
    have B0 := Lib.hid b0
    have K0 := Lib.hid k0
    clear b0 k0 e
    go_enter Try.func26, Try.ntmps26
    go_wp2_with (first | (go_at_call 85; refine (l1In_any m 1 16 _).mono ?_; rintro e1 w1 ⟨rfl, rfl⟩; rw [e2.out]) | (go_at_call 86; refine (l1Integers_any m hm hm' _).mono ?_; rintro e1 w1 ⟨v, rfl, hn, hb1⟩; obtain ⟨A, la, ca, B, lb, cb, rfl, oA, oB, hr⟩ := hn.out (sq16 hm') (by simp [addZ]) (by simp [mulZ]); have OA := Lib.hid oA; have OB := Lib.hid oB; have HR := Lib.hid hr; have K1 := Lib.hid (K0.out.below hb1 K0.out.lt); have B1 := Lib.hid (B0.out.trans (hb1.mono B0.out.size)); clear hn hb1 oA oB hr; have d0 := K1.out.cell 0; have d1 := K1.out.cell 1; have d2 := K1.out.cell 2; have d3 := K1.out.cell 3; have f0 := K1.out.frozen 0; have f1 := K1.out.frozen 1; have f2 := K1.out.frozen 2; have f3 := K1.out.frozen 3; simp at d0 d1 d2 d3))
    refine bodyPost_ret (v := .tuple #[.agg #[.int .i64 m, .int .i64 ((1 % m : Nat) : Int), .slice A la ca, .slice B lb cb], .bool true]) ?_ rfl ⟨_, rfl, ?_, ?_⟩
    · exact results_cell_flag rfl _ _ w.heap.size 25 _ _ _ rfl rfl (store4_blk K1.out) Try.underlying25 rfl (by kernel_rfl)
    · have hD : w.heap.size + 1 ≤ (w.alloc (.cells #[.int .i64 0, .int .i64 0, .slice none 0 0, .slice none 0 0] 25)).heap.size := by simp
      exact RingOut.lower (store4_out ⟨A, la, ca, B, lb, cb, rfl, OA.out.lower hD, OB.out.lower hD, HR.out⟩ (Nat.lt_succ_self _)) (Nat.le_succ _)
    · exact store4_below B1.out (Nat.le_refl _)
  · have e : intOk x = false := by simp [intOk]; omega
    simp only [intN, intO, intX, intY, e, Bool.false_eq_true, if_false]
    have B0 := Lib.hid b0
    have K0 := Lib.hid k0
    have e2 := Lib.hid (show inC x 1 16 = false by simp [inC]; omega)
    have d0 := K0.out.cell 0
    have d1 := K0.out.cell 1
    have d2 := K0.out.cell 2
    have d3 := K0.out.cell 3
    have f0 := K0.out.frozen 0
    have f1 := K0.out.frozen 1
    have f2 := K0.out.frozen 2
    have f3 := K0.out.frozen 3
    simp at d0 d1 d2 d3
    clear b0 k0
    go_enter Try.func26, Try.ntmps26
    go_wp2_with (go_at_call 85; refine (l1In_any x 1 16 _).mono ?_; rintro e1 w1 ⟨rfl, rfl⟩; rw [e2.out])
    refine bodyPost_ret (v := .tuple #[.agg #[.int .i64 0, .int .i64 0, .slice none 0 0, .slice none 0 0], .bool false]) ?_ rfl ⟨_, rfl, RingOut.zero, B0.out⟩
    exact results_cell_flag rfl _ _ w.heap.size 25 _ _ _ rfl rfl K0.out Try.underlying25 rfl (by kernel_rfl)

end Go.Proofs.Ytihjnjcfiipcoaa


/- Rings that a call hands out, with the blocks of empty slices. -/
namespace Go.Proofs.Ytihjnjcfiipcoaa
open Go.RowKit
set_option maxRecDepth 100000

/-- A ring whose memory is the call's own, the blocks of empty slices too. -/
def RingOutB (D : Nat) (w : World) (v : Value) (n o : Int) (X Y : List Int) : Prop :=
  ∃ (A : Option Addr) (la ca : Nat) (B : Option Addr) (lb cb : Nat), v = .agg #[.int .i64 n, .int .i64 o, .slice A la ca, .slice B lb cb] ∧ Own w D A la X ∧ Own w D B lb Y ∧ (Apart A la B lb ∧ la ≤ 1048570 ∧ lb ≤ 1048570 ∧ la + lb ≤ 1048570 ∧ la ≤ ca ∧ lb ≤ cb) ∧ (∀ a, A = some a → D ≤ a.block ∧ a.block < w.heap.size) ∧ (∀ a, B = some a → D ≤ a.block ∧ a.block < w.heap.size)
theorem RingOutB.zero {D : Nat} {w : World} : RingOutB D w (.agg #[.int .i64 0, .int .i64 0, .slice none 0 0, .slice none 0 0]) 0 0 [] [] :=
  ⟨none, 0, 0, none, 0, 0, rfl, Own.nil, Own.nil, ⟨fun p h => (by obtain ⟨_, _, _, e, _⟩ := h; cases e), by omega, by omega, by omega, by omega, by omega⟩, fun _ h => (by cases h), fun _ h => (by cases h)⟩
theorem RingOutB.next {D : Nat} {w w' : World} {v : Value} {n o : Int} {X Y : List Int} (h : RingOutB D w v n o X Y) (hb : Below w.heap.size w w') : RingOutB D w' v n o X Y := by
  obtain ⟨A, la, ca, B, lb, cb, e, h1, h2, h3, h4, h5⟩ := h
  exact ⟨A, la, ca, B, lb, cb, e, h1.next hb, h2.next hb, h3, fun a ha => ⟨(h4 a ha).1, Nat.lt_of_lt_of_le (h4 a ha).2 hb.size⟩, fun a ha => ⟨(h5 a ha).1, Nat.lt_of_lt_of_le (h5 a ha).2 hb.size⟩⟩
theorem RingOutB.lower {D D' : Nat} {w : World} {v : Value} {n o : Int} {X Y : List Int} (h : RingOutB D w v n o X Y) (hD : D' ≤ D) : RingOutB D' w v n o X Y := by
  obtain ⟨A, la, ca, B, lb, cb, e, h1, h2, h3, h4, h5⟩ := h
  exact ⟨A, la, ca, B, lb, cb, e, h1.lower hD, h2.lower hD, h3, fun a ha => ⟨Nat.le_trans hD (h4 a ha).1, (h4 a ha).2⟩, fun a ha => ⟨Nat.le_trans hD (h5 a ha).1, (h5 a ha).2⟩⟩
theorem store4_outB {w : World} {b D : Nat} {v v0 v1 v2 v3 : Value} {n o : Int} {X Y : List Int} (h : RingOutB D w v n o X Y) (hb : b < D) : RingOutB D (store4 w b v0 v1 v2 v3) v n o X Y := by
  obtain ⟨A, la, ca, B, lb, cb, e, h1, h2, h3, h4, h5⟩ := h
  have hs : (store4 w b v0 v1 v2 v3).heap.size = w.heap.size := by simp [store4]
  exact ⟨A, la, ca, B, lb, cb, e, store4_ownS h1 hb, store4_ownS h2 hb, h3, fun a ha => by rw [hs]; exact h4 a ha, fun a ha => by rw [hs]; exact h5 a ha⟩
theorem NewRing.outB {D : Nat} {w : World} {v : Value} {n o : Int} {k : Nat} {X Y : List Int} (h : NewRing D w v n o k X Y) (hk : k ≤ 1000) (hX : X.length = k) (hY : Y.length = k) : RingOutB D w v n o X Y := by
  obtain ⟨A, la, ca, B, lb, cb, e, h1, h2, h3⟩ := h.out hk hX hY
  obtain ⟨v2, v3, e2, r2, r3, _⟩ := h
  rw [e] at e2
  injection e2 with e2
  simp only [Array.mk.injEq, List.cons.injEq, and_true, true_and] at e2
  obtain ⟨rfl, rfl⟩ := e2
  exact ⟨A, la, ca, B, lb, cb, e, h1, h2, h3, fun a ha => r2.lt a.block (by rw [ha]; rfl), fun a ha => r3.lt a.block (by rw [ha]; rfl)⟩

end Go.Proofs.Ytihjnjcfiipcoaa


/- The drawing side: draws of stage 2. -/
namespace Go.Proofs.Ytihjnjcfiipcoaa
open Go.RowKit
set_option maxRecDepth 100000

set_option maxHeartbeats 4000000 in
theorem drawIntegers_any (A : Option Addr) (n c : Nat) (w : World) (hb : Byts w w.heap.size A n) (hn : n ≤ 1048576) (hc : n ≤ c) (hc2 : c ≤ 9223372036854775807) :
    Calls Try.prog 24 #[.slice A n c] w fun e w' => ∃ x : Int, e = .returned (.int .i64 x) ∧ Below w.heap.size w w' := by
  go_enter Try.func24, Try.ntmps24
  go_wp2_with (fail)
  refine (l13Open_any A n c w hb (by omega) hc hc2).mono ?_
  rintro e w1 ⟨rfl, hb1, hr1, hlt1⟩
  obtain ⟨g, hg⟩ : ∃ g, w.heap.size = g := ⟨_, rfl⟩
  rw [hg] at hr1 hlt1 ⊢
  have B1 := Lib.hid (show Below g w w1 by rw [← hg]; exact hb1)
  have R1 := Lib.hid hr1
  have G := Lib.hid hg
  clear hb1 hr1 hg hlt1
  go_wp2_with (fail)
  refine (pick_any g 0 _ _ R1.out (by omega)).mono ?_
  rintro e w2 ⟨x, rfl, h0, h1, hw2, hr2⟩
  have X2 := Lib.hid hw2
  have R2 := Lib.hid hr2
  have hx1 : x ≤ 15 := by omega
  have hg2 := hr2.lt
  clear hw2 hr2 h1
  obtain ⟨y, hy⟩ : ∃ y, (1 : Int) + x = y := ⟨_, rfl⟩
  have hyy : IntKind.i64.wrap (1 + x) = y := by rw [hy]; exact IntWalk.i64_in _ (by omega)
  go_wp2_with (fail)
  have bA : Below w2.heap.size w2 (w2.alloc (.cells #[.int .i64 y, .int .i64 4, .int .i64 6, .int .i64 1, .int .i64 16, .int .i64 0, .int .i64 17, .int .i64 (-1), .int .i64 12] 3)) := (Below.refl _ _).alloc (Nat.le_refl _) _
  refine (num_any g 1 _ 9 _ _ [y, 4, 6, 1, 16, 0, 17, -1, 12] _ (R2.out.next bA) (by omega) (ints_lit (w := w2) (l := [y, 4, 6, 1, 16, 0, 17, -1, 12]) (cs := #[.int .i64 y, .int .i64 4, .int .i64 6, .int .i64 1, .int .i64 16, .int .i64 0, .int .i64 17, .int .i64 (-1), .int .i64 12]) (T := 3) rfl) (fun a ha => by injection ha with ha; subst ha; show w2.heap.size ≠ g; omega) (by omega) (by omega)).mono ?_
  rintro e w3 ⟨j, hj, rfl, hw3, hr3⟩
  obtain ⟨z, hz⟩ : ∃ z, ([y, 4, 6, 1, 16, 0, 17, -1, 12] : List Int)[j]?.getD 0 = z := ⟨_, rfl⟩
  rw [hz]
  clear hz
  have X3 := Lib.hid ((X2.out.trans (Below.wk bA)).trans hw3)
  clear hw3 hr3 bA
  go_wp2_with (fail)
  go_ret
  exact ⟨_, rfl, by rw [G.out]; exact B1.out.trans (X3.out.below (B := g) (Nat.le_refl _) (by rw [← G.out]; exact B1.out.size))⟩

end Go.Proofs.Ytihjnjcfiipcoaa


/- Plain facts: rings whose tables are given by functions; the integers by a number. No program in sight. -/
namespace Go.Proofs.Ytihjnjcfiipcoaa
open Go.RowKit

theorem tabOf_tabZ {m a b : Nat} {f : Nat → Nat → Nat} (ha : a < m) (hb : b < m) : tabOf (tabZ m f (m * m)) (a * m + b) = f a b := by
  have hk := idx_lt ha hb
  unfold tabOf tabZ
  rw [List.getElem?_map, List.getElem?_range hk]
  show ((f ((a * m + b) / m) ((a * m + b) % m) : Nat) : Int).toNat = f a b
  rw [(idx_parts hb).1, (idx_parts hb).2]
  simp
theorem tabZ_val {m k : Nat} {f : Nat → Nat → Nat} (hk : k < m * m) : (tabZ m f (m * m))[k]?.getD 0 = ((f (k / m) (k % m) : Nat) : Int) := by
  unfold tabZ
  rw [List.getElem?_map, List.getElem?_range hk]
  rfl
/-- Sums and products as functions make a ring. -/
structure FRing (m e : Nat) (f g : Nat → Nat → Nat) : Prop where
  hm : 1 ≤ m
  he : e < m
  fl : ∀ a b, a < m → b < m → f a b < m
  gl : ∀ a b, a < m → b < m → g a b < m
  f0 : ∀ a, a < m → f a 0 = a
  fc : ∀ a b, a < m → b < m → f a b = f b a
  fa : ∀ a b c, a < m → b < m → c < m → f (f a b) c = f a (f b c)
  fn : ∀ a, a < m → ∃ c, c < m ∧ f a c = 0
  g1 : ∀ a, a < m → g a e = a
  gc : ∀ a b, a < m → b < m → g a b = g b a
  ga : ∀ a b c, a < m → b < m → c < m → g (g a b) c = g a (g b c)
  d : ∀ a b c, a < m → b < m → c < m → g a (f b c) = f (g a b) (g a c)
theorem FRing.valid {m e : Nat} {f g : Nat → Nat → Nat} (F : FRing m e f g) (hm' : m ≤ 16) : validB m e (tabZ m f (m * m)) (tabZ m g (m * m)) = true := by
  have hp : ∀ {k}, k < m * m → k / m < m ∧ k % m < m := fun hk => parts2 hk
  unfold validB
  rw [Bool.and_eq_true]
  constructor
  · refine fitsB_iff.2 ⟨by have := F.hm; omega, by omega, ⟨by omega, by have := F.he; omega⟩, by simp [tabZ], by simp [tabZ], fun k hk => ?_, fun k hk => ?_⟩
    · have hk' : k < m * m := by simpa [tabZ] using hk
      rw [tabZ_val hk']
      have := F.fl _ _ (hp hk').1 (hp hk').2
      omega
    · have hk' : k < m * m := by simpa [tabZ] using hk
      rw [tabZ_val hk']
      have := F.gl _ _ (hp hk').1 (hp hk').2
      omega
  · simp only [Int.toNat_natCast]
    have z : 0 < m := F.hm
    refine laws_iff.2 ⟨fun a ha => ⟨?_, fun b hb => ⟨?_, fun c hc => ?_⟩⟩, fun a ha => ⟨?_, fun b hb => ⟨?_, fun c hc => ?_⟩⟩, fun a ha => ?_, fun a ha b hb c hc => ?_⟩
    · rw [tabOf_tabZ ha z]; exact F.f0 a ha
    · rw [tabOf_tabZ ha hb, tabOf_tabZ hb ha]; exact F.fc a b ha hb
    · unfold Law3
      rw [tabOf_tabZ ha hb, tabOf_tabZ hb hc, tabOf_tabZ (F.fl a b ha hb) hc, tabOf_tabZ ha (F.fl b c hb hc)]
      exact F.fa a b c ha hb hc
    · rw [tabOf_tabZ ha F.he]; exact F.g1 a ha
    · rw [tabOf_tabZ ha hb, tabOf_tabZ hb ha]; exact F.gc a b ha hb
    · unfold Law3
      rw [tabOf_tabZ ha hb, tabOf_tabZ hb hc, tabOf_tabZ (F.gl a b ha hb) hc, tabOf_tabZ ha (F.gl b c hb hc)]
      exact F.ga a b c ha hb hc
    · obtain ⟨c, hc, h⟩ := F.fn a ha
      exact rowL_mem (v := 0).2 ⟨c, hc, by rw [tabOf_tabZ ha hc]; exact h⟩
    · unfold Dist3
      rw [tabOf_tabZ hb hc, tabOf_tabZ ha (F.fl b c hb hc), tabOf_tabZ ha hb, tabOf_tabZ ha hc, tabOf_tabZ (F.gl a b ha hb) (F.gl a c ha hc)]
      exact F.d a b c ha hb hc
/-- The least number of times is told by what it is. -/
theorem ordN_uniq {m a d : Nat} {S : Nat → Nat} (h : IsOrd m S a d) : ordN m S a = d := by
  have h' : IsOrd m S a (ordN m S a) := Classical.epsilon_spec (p := IsOrd m S a) ⟨d, h⟩
  rcases Nat.lt_trichotomy (ordN m S a) d with hl | hl | hl
  · exact absurd h'.2.2.1 (h.2.2.2 _ h'.1 hl)
  · exact hl
  · exact absurd h.2.2.1 (h'.2.2.2 _ h.1 hl)
theorem int_fring {m : Nat} (hm : 1 ≤ m) : FRing m (1 % m) (fun a b => (a + b) % m) (fun a b => a * b % m) where
  hm := hm
  he := Nat.mod_lt _ hm
  fl := fun _ _ _ _ => Nat.mod_lt _ hm
  gl := fun _ _ _ _ => Nat.mod_lt _ hm
  f0 := fun a ha => by simp [Nat.mod_eq_of_lt ha]
  fc := fun a b _ _ => by simp only [Nat.add_comm]
  fa := fun a b c _ _ _ => by simp only [Nat.mod_add_mod, Nat.add_mod_mod, Nat.add_assoc]
  fn := fun a ha => ⟨(m - a) % m, Nat.mod_lt _ hm, by
    simp only [Nat.add_mod_mod]
    rw [show a + (m - a) = m by omega, Nat.mod_self]⟩
  g1 := fun a ha => by simp [Nat.mul_mod_mod, Nat.mod_eq_of_lt ha]
  gc := fun a b _ _ => by simp only [Nat.mul_comm]
  ga := fun a b c _ _ _ => by simp only [Nat.mod_mul_mod, Nat.mul_mod_mod, Nat.mul_assoc]
  d := fun a b c _ _ _ => by simp only [Nat.mul_mod_mod, ← Nat.add_mod, Nat.mul_add]
theorem int_seq {m : Nat} (hm : 1 ≤ m) : ∀ k, seqT m (tabOf (tabZ m (fun a b => (a + b) % m) (m * m))) (1 % m) k = k % m
  | 0 => by simp [seqT]
  | k + 1 => by
    show tabOf _ (seqT m _ (1 % m) k * m + 1 % m) = _
    rw [int_seq hm k, tabOf_tabZ (Nat.mod_lt _ hm) (Nat.mod_lt _ hm), ← Nat.add_mod]
theorem int_char {m : Nat} (hm : 1 ≤ m) : ordN m (tabOf (tabZ m (fun a b => (a + b) % m) (m * m))) (1 % m) = m :=
  ordN_uniq ⟨hm, Nat.le_refl _, by rw [int_seq hm, Nat.mod_self], fun j h1 h2 => by rw [int_seq hm, Nat.mod_eq_of_lt h2]; omega⟩

end Go.Proofs.Ytihjnjcfiipcoaa
