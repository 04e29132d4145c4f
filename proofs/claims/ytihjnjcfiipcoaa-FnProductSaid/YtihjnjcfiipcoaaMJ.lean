/- Texts of this seat in one: G3 G4 R1 R2 W9 WA WB Z1 Z2 Z3 Z4 Z5 Z6 Z7 E6 E7. -/
import Derived.Test.YtihjnjcfiipcoaaMC
import Derived.Test.YtihjnjcfiipcoaaMF
import Derived.Test.YtihjnjcfiipcoaaMB
import Derived.Test.YtihjnjcfiipcoaaMA
import Derived.Deep.Cut

/- The methods of the making of the integers by a number. -/
namespace Go.Proofs.Ytihjnjcfiipcoaa
open Go.RowKit
set_option maxRecDepth 100000

theorem ibSize_any (m : Nat) (w : World) : Calls Try.prog 166 #[.agg #[.int .i64 m]] w fun e w' => e = .returned (.int .i64 m) ∧ Below w.heap.size w w' := by
  go_enter Try.func166, Try.ntmps166
  go_wp2
  go_ret
  exact ⟨rfl, (Below.refl _ _).alloc (Nat.le_refl _) _⟩
theorem ibOne_any (m : Nat) (hm : 1 ≤ m) (w : World) : Calls Try.prog 164 #[.agg #[.int .i64 m]] w fun e w' => e = .returned (.int .i64 ((1 % m : Nat) : Int)) ∧ Below w.heap.size w w' := by
  have h0 : ¬ m = 0 := by omega
  go_enter Try.func164, Try.ntmps164
  go_wp2
  go_ret
  exact ⟨by simp, (Below.refl _ _).alloc (Nat.le_refl _) _⟩
theorem ibElement_any (m : Nat) (x : Int) (w : World) : Calls Try.prog 162 #[.agg #[.int .i64 m], .int .i64 x] w fun e w' => e = .returned (.int .i64 x) ∧ Below w.heap.size w w' := by
  go_enter Try.func162, Try.ntmps162
  go_wp2
  go_ret
  exact ⟨rfl, (Below.refl _ _).alloc (Nat.le_refl _) _⟩
theorem ibNumber_any (m : Nat) (x : Int) (w : World) : Calls Try.prog 163 #[.agg #[.int .i64 m], .int .i64 x] w fun e w' => e = .returned (.int .i64 x) ∧ Below w.heap.size w w' := by
  go_enter Try.func163, Try.ntmps163
  go_wp2
  go_ret
  exact ⟨rfl, (Below.refl _ _).alloc (Nat.le_refl _) _⟩
theorem ibSum_any (m a b : Nat) (hm' : m ≤ 16) (ha : a < m) (hb : b < m) (w : World) : Calls Try.prog 167 #[.agg #[.int .i64 m], .int .i64 a, .int .i64 b] w fun e w' => e = .returned (.int .i64 (((a + b) % m : Nat) : Int)) ∧ Below w.heap.size w w' := by
  have h0 : ¬ m = 0 := by omega
  have h1 : (a : Int) + b ≤ 32 := by omega
  have hw1 : IntKind.i64.wrap ((a : Int) + b) = (a : Int) + b := IntWalk.i64_in _ (by omega)
  have hw2 : ((a : Int) + b).tmod m = (((a + b) % m : Nat) : Int) := by rw [Int.tmod_eq_emod_of_nonneg (by omega)]; simp
  go_enter Try.func167, Try.ntmps167
  go_wp2
  go_ret
  exact ⟨by simp, (Below.refl _ _).alloc (Nat.le_refl _) _⟩
theorem ibProduct_any (m a b : Nat) (hm' : m ≤ 16) (ha : a < m) (hb : b < m) (w : World) : Calls Try.prog 165 #[.agg #[.int .i64 m], .int .i64 a, .int .i64 b] w fun e w' => e = .returned (.int .i64 ((a * b % m : Nat) : Int)) ∧ Below w.heap.size w w' := by
  have h0 : ¬ m = 0 := by omega
  have hab : (a : Int) * b = ((a * b : Nat) : Int) := by simp
  have hab2 : a * b ≤ 16 * 16 := Nat.mul_le_mul (by omega) (by omega)
  have hw1 : IntKind.i64.wrap ((a : Int) * b) = (a : Int) * b := IntWalk.i64_in _ (by rw [hab]; omega)
  have hw2 : ((a : Int) * b).tmod m = ((a * b % m : Nat) : Int) := by rw [Int.tmod_eq_emod_of_nonneg (by rw [hab]; omega)]; simp
  have hab3 : (0 : Int) ≤ (a : Int) * b := by rw [hab]; omega
  have hab4 : (a : Int) * b ≤ 256 := by rw [hab]; omega
  clear hab hab2
  go_enter Try.func165, Try.ntmps165
  go_wp2
  go_ret
  exact ⟨by simp, (Below.refl _ _).alloc (Nat.le_refl _) _⟩

/-- What the walk of 'made' asks of a making: its methods, wherever the call stands. -/
structure Making (w0 : World) (mv : Value) (fsize fone felement fnumber fsum fproduct : Nat) (m o : Nat) (El : Nat → Value) (SV PV : Nat → Nat → Value) (S P : Nat → Nat → Nat) (oneV : Value) : Prop where
  size : ∀ w, Below w0.heap.size w0 w → Calls Try.prog fsize #[mv] w fun e w' => e = .returned (.int .i64 m) ∧ Below w.heap.size w w'
  one : ∀ w, Below w0.heap.size w0 w → Calls Try.prog fone #[mv] w fun e w' => e = .returned oneV ∧ Below w.heap.size w w'
  oneNum : ∀ w, Below w0.heap.size w0 w → Calls Try.prog fnumber #[mv, oneV] w fun e w' => e = .returned (.int .i64 o) ∧ Below w.heap.size w w'
  element : ∀ w, Below w0.heap.size w0 w → ∀ a, a < m → Calls Try.prog felement #[mv, .int .i64 a] w fun e w' => e = .returned (El a) ∧ Below w.heap.size w w'
  sum : ∀ w, Below w0.heap.size w0 w → ∀ a b, a < m → b < m → Calls Try.prog fsum #[mv, El a, El b] w fun e w' => e = .returned (SV a b) ∧ Below w.heap.size w w'
  product : ∀ w, Below w0.heap.size w0 w → ∀ a b, a < m → b < m → Calls Try.prog fproduct #[mv, El a, El b] w fun e w' => e = .returned (PV a b) ∧ Below w.heap.size w w'
  sumNum : ∀ w, Below w0.heap.size w0 w → ∀ a b, a < m → b < m → Calls Try.prog fnumber #[mv, SV a b] w fun e w' => e = .returned (.int .i64 (S a b)) ∧ Below w.heap.size w w'
  prodNum : ∀ w, Below w0.heap.size w0 w → ∀ a b, a < m → b < m → Calls Try.prog fnumber #[mv, PV a b] w fun e w' => e = .returned (.int .i64 (P a b)) ∧ Below w.heap.size w w'

end Go.Proofs.Ytihjnjcfiipcoaa


/- The program's maker of rings, at the integers by a number. -/
namespace Go.Proofs.Ytihjnjcfiipcoaa
open Go.RowKit
set_option maxRecDepth 100000

def tabZ (m : Nat) (f : Nat → Nat → Nat) (k : Nat) : List Int := (List.range k).map fun j => ((f (j / m) (j % m) : Nat) : Int)
theorem tabZ_succ {m k : Nat} {f : Nat → Nat → Nat} : tabZ m f (k + 1) = tabZ m f k ++ [((f (k / m) (k % m) : Nat) : Int)] := by simp [tabZ, List.range_succ]

def madePhi (D m : Nat) (i : Nat) (v : Value) (w : World) : Prop :=
  if i = 17 then ∃ g, v = .pointer (some ⟨g, 0, none⟩) ∧ D ≤ g ∧ Blk w g 25 #[.int .i64 0, .int .i64 0, .slice none 0 0, .slice none 0 0]
  else ∃ g, v = .slice (some ⟨g, 0, none⟩) 0 (m * m) ∧ D ≤ g ∧ Blk w g 3 (madeCells #[.int .i64 0] (m * m))
theorem madePhi_stable {D m : Nat} (i : Nat) (v : Value) (w w' : World) (h : madePhi D m i v w) (hb : Below w.heap.size w w') : madePhi D m i v w' := by
  unfold madePhi at *
  split
  · rename_i e
    rw [if_pos e] at h
    obtain ⟨g, h1, h2, h3⟩ := h
    exact ⟨g, h1, h2, h3.below hb h3.lt⟩
  · rename_i e
    rw [if_neg e] at h
    obtain ⟨g, h1, h2, h3⟩ := h
    exact ⟨g, h1, h2, h3.below hb h3.lt⟩
def madeSh (m : Nat) (i : Nat) (v : Value) : Prop := if i = 17 then ∃ g, v = .pointer (some ⟨g, 0, none⟩) else ∃ g, v = .slice (some ⟨g, 0, none⟩) 0 (m * m)
theorem madeSh_of {D m : Nat} (i : Nat) (v : Value) (w : World) (h : madePhi D m i v w) : madeSh m i v := by
  unfold madePhi at h
  unfold madeSh
  split <;> rename_i e
  · rw [if_pos e] at h
    exact ⟨h.choose, h.choose_spec.1⟩
  · rw [if_neg e] at h
    exact ⟨h.choose, h.choose_spec.1⟩
def madeMk (i : Nat) : Bool := i == 11 || i == 15 || i == 17

theorem ib_size (n : Int) (w : World) : (method 268 86 (.agg #[.int .i64 n]) "loop.example/finiterings/impl.size").run Try.prog w = .ok (166, .agg #[.int .i64 n]) w := by kernel_rfl
theorem ib_one (n : Int) (w : World) : (method 268 86 (.agg #[.int .i64 n]) "loop.example/finiterings/impl.one").run Try.prog w = .ok (164, .agg #[.int .i64 n]) w := by kernel_rfl
theorem ib_element (n : Int) (w : World) : (method 268 86 (.agg #[.int .i64 n]) "loop.example/finiterings/impl.element").run Try.prog w = .ok (162, .agg #[.int .i64 n]) w := by kernel_rfl
theorem ib_number (n : Int) (w : World) : (method 268 86 (.agg #[.int .i64 n]) "loop.example/finiterings/impl.number").run Try.prog w = .ok (163, .agg #[.int .i64 n]) w := by kernel_rfl
theorem ib_sum (n : Int) (w : World) : (method 268 86 (.agg #[.int .i64 n]) "loop.example/finiterings/impl.sum").run Try.prog w = .ok (167, .agg #[.int .i64 n]) w := by kernel_rfl
theorem ib_product (n : Int) (w : World) : (method 268 86 (.agg #[.int .i64 n]) "loop.example/finiterings/impl.product").run Try.prog w = .ok (165, .agg #[.int .i64 n]) w := by kernel_rfl
theorem ib_ahead (n : Int) (w : World) : (nilAhead 268 86 (.agg #[.int .i64 n]) "loop.example/finiterings/impl.number").run Try.prog w = .ok (some false) w := by kernel_rfl

theorem idx_parts {m a b : Nat} (hb : b < m) : (a * m + b) / m = a ∧ (a * m + b) % m = b := by
  have hm : 0 < m := by omega
  refine ⟨?_, ?_⟩
  · rw [Nat.mul_comm, Nat.mul_add_div hm, Nat.div_eq_of_lt hb, Nat.add_zero]
  · rw [Nat.mul_comm, Nat.mul_add_mod, Nat.mod_eq_of_lt hb]
theorem tabZ_at {m a b : Nat} {f : Nat → Nat → Nat} (hb : b < m) : tabZ m f (a * m + b + 1) = tabZ m f (a * m + b) ++ [((f a b : Nat) : Int)] := by
  obtain ⟨e1, e2⟩ := idx_parts (a := a) hb
  rw [tabZ_succ, e1, e2]

set_option maxHeartbeats 8000000 in
theorem madeIb_any (n : Int) (m o : Nat) (El : Nat → Value) (SV PV : Nat → Nat → Value) (S P : Nat → Nat → Nat) (oneV : Value) (hm : 1 ≤ m) (hm' : m ≤ 16) (w : World)
    (hM : Making w (.agg #[.int .i64 n]) 166 164 162 163 167 165 m o El SV PV S P oneV) :
    Calls Try.prog 84 #[.iface 86 (.agg #[.int .i64 n])] w fun e w' => ∃ v, e = .returned v ∧ NewRing w.heap.size w' v m o (m * m) (tabZ m S (m * m)) (tabZ m P (m * m)) ∧ Below w.heap.size w w' := by
  obtain ⟨i0, hi, hz0, hz1, hz2⟩ := info_parts int_info
  obtain ⟨s1, s2, s3, s4⟩ := sqI hm'
  have S3 := Lib.hid s3
  have MK := Lib.hid hM
  clear s3 hM
  have hmm : m * m ≤ 256 := s4
  have q1 := ib_size n
  have q2 := ib_one n
  have q3 := ib_element n
  have q4 := ib_number n
  have q5 := ib_sum n
  have q6 := ib_product n
  have q7 := ib_ahead n
  have b0 : Below w.heap.size w (w.alloc (.cells #[.int .i64 0, .int .i64 0, .slice none 0 0, .slice none 0 0] 25)) := (Below.refl _ _).alloc (Nat.le_refl _) _
  have k0 := Blk.new w 25 #[.int .i64 0, .int .i64 0, .slice none 0 0, .slice none 0 0]
  have K0 := Lib.hid k0
  have B0 := Lib.hid b0
  clear k0 b0
  go_enter Try.func84, Try.ntmps84
  go_wp2_with (go_at_call 166; refine (MK.out.size _ B0.out).mono ?_; rintro e1 w1 ⟨rfl, hb1⟩)
  have K1 := Lib.hid (K0.out.below hb1 K0.out.lt)
  have B1 := Lib.hid (B0.out.trans (hb1.mono (by simp)))
  have hs1 := hb1.size
  clear hb1
  have hmz : IntKind.i64.wrap ((m : Int) * m) = (m : Int) * m := IntWalk.i64_in _ (by omega)
  refine wp_region_makers 18 madeMk (madePhi (w.heap.size + 1) m) (madeSh m) (fun i => if i = 17 then .pointer (some ⟨0, 0, none⟩) else .slice (some ⟨0, 0, none⟩) 0 (m * m)) probe (by kernel_rfl) (by kernel_rfl) madePhi_stable (fun i v x _ => madeSh_of i v x)
    (fun i _ => by unfold madeSh; split <;> simp) ?_
  intro W hW vs hvs
  obtain ⟨g1, e1⟩ : ∃ g, vs 11 = .slice (some ⟨g, 0, none⟩) 0 (m * m) := hvs 11 rfl
  obtain ⟨g2, e2⟩ : ∃ g, vs 15 = .slice (some ⟨g, 0, none⟩) 0 (m * m) := hvs 15 rfl
  obtain ⟨bx, e3⟩ : ∃ g, vs 17 = .pointer (some ⟨g, 0, none⟩) := hvs 17 rfl
  have BW := Lib.hid (B1.out.trans (hW.mono B1.out.size))
  have cW : ∃ x, extC W x := ⟨W, extC_of (Below.refl _ _)⟩
  have big : ∀ x, extC W x → w.heap.size + 1 ≤ x.heap.size := fun x ⟨u, hu⟩ => by rw [hu]; exact Nat.le_trans (Nat.le_trans K1.out.lt hW.size) (ext_size W u)
  simp only [List.take_succ_cons, List.take_zero, List.drop_succ_cons, List.drop_zero]
  refine wpV_quiet cW 11 0 _ _ (by decide) (by decide) ?_
  simp only [List.take_succ_cons, List.take_zero, List.drop_succ_cons, List.drop_zero]
  repeat (go_big_quiet_step (first
      | (go_at_call 164; with_reducible refine calls_ext (MK.out.one _ ?_); exact BW.out.trans ((ext_below _ _).mono BW.out.size))
      | (go_at_call 163; with_reducible refine calls_ext (MK.out.oneNum _ ?_); exact BW.out.trans ((ext_below _ _).mono BW.out.size))))
  refine wpQuiet_nil ?_
  refine wpV_make' rfl rfl (fun x hx => makesAt_mono (makes_row _ _ 0 (m * m) _ _ rfl rfl (by rw [← S3.out]; rfl) (Nat.zero_le _) (by omega) x) fun v x' ⟨g, h1, h2, h3⟩ => ⟨g, h1, Nat.le_trans (big x hx) h2, h3⟩) ?_
  rw [e1]
  go_simp
  refine wpV_quiet cW 3 _ _ _ (by decide) (by decide) ?_
  simp only [List.take_succ_cons, List.take_zero, List.drop_succ_cons, List.drop_zero]
  repeat (go_big_quiet_step (fail))
  refine wpQuiet_nil ?_
  refine wpV_make' rfl rfl (fun x hx => makesAt_mono (makes_row _ _ 0 (m * m) _ _ rfl rfl (by rw [← S3.out]; rfl) (Nat.zero_le _) (by omega) x) fun v x' ⟨g, h1, h2, h3⟩ => ⟨g, h1, Nat.le_trans (big x hx) h2, h3⟩) ?_
  rw [e2]
  go_simp
  refine wpV_quiet cW 1 _ _ _ (by decide) (by decide) ?_
  simp only [List.take_succ_cons, List.take_zero, List.drop_succ_cons, List.drop_zero]
  repeat (go_big_quiet_step (fail))
  refine wpQuiet_nil ?_
  refine wpV_make' rfl rfl (fun x hx => makesAt_mono (makes_box rfl x) fun v x' ⟨g, h1, h2, h3⟩ => ⟨g, h1, Nat.le_trans (big x hx) h2, h3⟩) ?_
  rw [e3]
  go_simp
  refine wpV_nil ?_
  intro w2 hb2 hfacts hapart
  have n12 : g1 ≠ g2 := fun e => hapart 11 15 (by omega) (by omega) (by omega) rfl rfl g1 (by rw [e1]; rfl) (by rw [e2, e]; rfl)
  obtain ⟨d1, r1⟩ : w.heap.size + 1 ≤ g1 ∧ Blk w2 g1 3 (madeCells #[.int .i64 0] (m * m)) := by
    obtain ⟨g, h1, h2, h3⟩ := hfacts 11 (by omega) rfl
    rw [e1] at h1
    simp at h1
    subst h1
    exact ⟨h2, h3⟩
  obtain ⟨d2, r2⟩ : w.heap.size + 1 ≤ g2 ∧ Blk w2 g2 3 (madeCells #[.int .i64 0] (m * m)) := by
    obtain ⟨g, h1, h2, h3⟩ := hfacts 15 (by omega) rfl
    rw [e2] at h1
    simp at h1
    subst h1
    exact ⟨h2, h3⟩
  obtain ⟨d3, r3⟩ : w.heap.size + 1 ≤ bx ∧ Blk w2 bx 25 #[.int .i64 0, .int .i64 0, .slice none 0 0, .slice none 0 0] := by
    obtain ⟨g, h1, h2, h3⟩ := hfacts 17 (by omega) rfl
    rw [e3] at h1
    simp at h1
    subst h1
    exact ⟨h2, h3⟩
  clear hfacts hapart hvs e1 e2 e3
  have nb1 : g1 ≠ bx := blk_ne (t := 3) (t' := 25) r1 r3 (by decide)
  have nb2 : g2 ≠ bx := blk_ne (t := 3) (t' := 25) r2 r3 (by decide)
  have c0 := r3.cell 0
  have c1 := r3.cell 1
  have c2 := r3.cell 2
  have c3 := r3.cell 3
  have f0 := r3.frozen 0
  have f1 := r3.frozen 1
  have f2 := r3.frozen 2
  have f3 := r3.frozen 3
  simp at c0 c1 c2 c3
  go_wp2_with (fail)
  obtain ⟨V, hV⟩ : ∃ V, store4 w2 bx (.int .i64 m) (.int .i64 o) (.slice (some ⟨g1, 0, none⟩) 0 (m * m)) (.slice (some ⟨g2, 0, none⟩) 0 (m * m)) = V := ⟨_, rfl⟩
  have hV' := hV
  unfold store4 at hV'
  have gv : Grow (w.heap.size + 1) V bx m o (.slice (some ⟨g1, 0, none⟩) 0 (m * m)) (.slice (some ⟨g2, 0, none⟩) 0 (m * m)) 0 0 [] [] := by
    subst hV
    exact ⟨store4_blk r3, d3, store4_own (own_of_blk r1 d1 (by omega)) (by simpa [Value.ownBlock] using nb1), store4_own (own_of_blk r2 d2 (by omega)) (by simpa [Value.ownBlock] using nb2), by simpa [Value.ownBlock] using nb1, by simpa [Value.ownBlock] using nb2, by
      intro g h1 h2
      simp [Value.ownBlock] at h1 h2
      omega⟩
  have bv : Below w1.heap.size w1 w2 := hb2
  have bV : Below (w.heap.size + 1) w1 V := by subst hV; exact store4_below (bv.mono K1.out.lt) d3
  rw [hV']
  clear hV hV' c0 c1 c2 c3 f0 f1 f2 f3 r1 r2 r3 hb2 bv BW cW big hW
  have GV := Lib.hid gv
  have BV := Lib.hid bV
  clear gv bV
  go_loopw [29] (fun i wr => ∃ (a : Nat) (v2 v3 : Value), a ≤ m ∧ i = .int .i64 a ∧ Grow (w.heap.size + 1) wr bx m o v2 v3 (a * m) (a * m) (tabZ m S (a * m)) (tabZ m P (a * m)) ∧ Below (w.heap.size + 1) V wr) (fun i _ => m - (intOf i).toNat)
  case atStart => exact ⟨0, _, _, Nat.zero_le _, rfl, by simpa [tabZ] using GV.out, Below.refl _ _⟩
  case round =>
    obtain ⟨a, v2, v3, ha, rfl, hg, hb⟩ := hrel
    have GR := Lib.hid hg
    have BR := Lib.hid hb
    clear hg hb
    by_cases hlt : a < m
    · have hBw : Below w.heap.size w wr := B1.out.trans ((BV.out.trans BR.out).mono (by omega))
      go_wp2_with (go_at_call 162; refine (MK.out.element _ hBw a hlt).mono ?_; rintro e3 w3 ⟨rfl, hb3⟩)
      have G3 := Lib.hid (GR.out.keep hb3)
      have B3 := Lib.hid (BR.out.trans (hb3.mono (Nat.le_of_lt (Nat.lt_of_le_of_lt GR.out.hD GR.out.box.lt))))
      clear hb3 hBw
      go_loopw [36] (fun i wr => ∃ (b : Nat) (v2 v3 : Value), b ≤ m ∧ i = .int .i64 b ∧ Grow (w.heap.size + 1) wr bx m o v2 v3 (a * m + b) (a * m + b) (tabZ m S (a * m + b)) (tabZ m P (a * m + b)) ∧ Below (w.heap.size + 1) V wr) (fun i _ => m - (intOf i).toNat)
      case atStart => exact ⟨0, _, _, Nat.zero_le _, rfl, G3.out, B3.out⟩
      case round =>
        obtain ⟨b, v2, v3, hb, rfl, hg, hbl⟩ := hrel
        have GR := Lib.hid hg
        have BR := Lib.hid hbl
        clear hg hbl
        by_cases hlt2 : b < m
        · have hBw : Below w.heap.size w wr := B1.out.trans ((BV.out.trans BR.out).mono (by omega))
          go_wp2_with (go_at_call 162; refine (MK.out.element _ hBw b hlt2).mono ?_; rintro e4 wd ⟨rfl, hb4⟩)
          have gd := GR.out.keep hb4
          have bd : Below w.heap.size w wd := hBw.trans (hb4.mono hBw.size)
          have GD := Lib.hid gd
          have BD := Lib.hid bd
          have BE := Lib.hid (BR.out.trans (hb4.mono (Nat.le_of_lt (Nat.lt_of_le_of_lt GR.out.hD GR.out.box.lt))))
          have hlx : bx < wd.heap.size := gd.box.lt
          have hq0 : w.heap.size ≤ wd.heap.size := bd.size
          have hq : w.heap.size ≤ wd.heap.size := bd.size
          have hqD : w.heap.size + 1 ≤ wd.heap.size := Nat.le_of_lt (Nat.lt_of_le_of_lt gd.hD gd.box.lt)
          clear hb4 hBw gd bd
          have hk0 : a * m + b < m * m := by
            have : (a + 1) * m ≤ m * m := Nat.mul_le_mul_right _ hlt
            rw [Nat.succ_mul] at this
            omega
          have hkk : (a * m + b) + 1 ≤ maxLen := by unfold maxLen; omega
          have hbt : ((a * m + b) + 1) * 8 ≤ 140737488355328 := by omega
          have GWA := Lib.hid GD.out
          have nnA : v2.ownBlock ≠ some bx := GD.out.n2
          go_wp2_with (fail)
          refine wp_region_makers 12 (fun i => i == 11) (appPhi (w.heap.size + 1) (.int .i64 (S a b : Nat))) appSh (fun _ => .slice (some ⟨0, 0, none⟩) 1 1) probe (by kernel_rfl) (by kernel_rfl) appPhi_stable (fun i v x _ => appSh_of i v x) (fun _ _ => ⟨0, rfl⟩) ?_
          intro W1 hW1 vsA hvsA
          obtain ⟨h1A, e1A⟩ : ∃ g, vsA 11 = .slice (some ⟨g, 0, none⟩) 1 1 := hvsA 11 rfl
          have BWA := Lib.hid (BD.out.trans (hW1.mono hq))
          have cWA : ∃ x, extC W1 x := ⟨W1, extC_of (Below.refl _ _)⟩
          have bigA : ∀ x, extC W1 x → w.heap.size + 1 ≤ x.heap.size := fun x ⟨u, hu⟩ => by rw [hu]; exact Nat.le_trans (Nat.le_trans hqD hW1.size) (ext_size W1 u)
          have cA := (GD.out.keep hW1).box.cell 2
          simp at cA
          simp only [List.take_succ_cons, List.take_zero, List.drop_succ_cons, List.drop_zero]
          refine wpV_quiet cWA 11 0 _ _ (by decide) (by decide) ?_
          simp only [List.take_succ_cons, List.take_zero, List.drop_succ_cons, List.drop_zero]
          repeat (go_big_quiet_step (first
              | (go_at_call 167; with_reducible refine calls_ext (MK.out.sum _ ?_ a b hlt hlt2); exact BWA.out.trans ((ext_below _ _).mono BWA.out.size))
              | (go_at_call 163; with_reducible refine calls_ext (MK.out.sumNum _ ?_ a b hlt hlt2); exact BWA.out.trans ((ext_below _ _).mono BWA.out.size))))
          refine wpQuiet_nil ?_
          refine wpV_make' rfl rfl (fun x hx => makesAt_mono (makes_one _ _ rfl rfl x) fun v x' ⟨g, p1, p2, p3⟩ => ⟨g, p1, Nat.le_trans (bigA x hx) p2, p3⟩) ?_
          rw [e1A]
          go_simp
          refine wpV_nil ?_
          intro wm hbA hfactsA _
          obtain ⟨gA, q1A, _, r1A⟩ := hfactsA 11 (by omega) rfl
          have egA : gA = h1A := by rw [e1A] at q1A; simp at q1A; exact q1A.symm
          subst egA
          have gkA := GD.out.keep hbA
          refine wpList_append_lies _ rfl _ _ _ rfl (w.heap.size + 1) 3 i0 _ 1 8 Try.underlying23 hi hz0 hz1 hz2 rfl (by omega) v2 (a * m + b) _ rfl gkA.o2 ⟨gA, 0, none⟩ 1 1 _ rfl rfl (World.news_of_block r1A) (by simp [Value.oneCell']) (by omega) hkk hbt (Nat.le_trans hqD hbA.size) _ rfl ?_
          intro gg cap w7 hownA hgrowA hatA _
          have ffA : w7.frozen? ⟨bx, 2, none⟩ = false := by rw [hgrowA.frozen_far _ gkA.box.lt (Ne.symm nnA)]; exact gkA.box.frozen 2
          have ccA : w7.cell? ⟨bx, 2, none⟩ = some v2 := by rw [hgrowA.cell_far _ gkA.box.lt (Ne.symm nnA)]; exact gkA.box.cell 2
          obtain ⟨gpA, bpA⟩ := gkA.put2 hownA hgrowA hatA
          go_wp2_with (fail)
          have GP0 := Lib.hid gpA
          have BP0 := Lib.hid (BE.out.trans ((hbA.mono hqD).trans bpA))
          clear gpA bpA hownA hgrowA hatA ffA ccA gkA hbA hfactsA q1A r1A cA nnA GWA BWA cWA bigA hW1 hvsA
          obtain ⟨we, hwe⟩ : ∃ we, w7.setCell ⟨bx, 2, none⟩ (.slice (some ⟨gg, 0, none⟩) (a * m + b + 1) cap) = we := ⟨_, rfl⟩
          rw [hwe] at GP0 BP0 ⊢
          clear hwe
          have GP := Lib.hid GP0.out
          have BP := Lib.hid (B1.out.trans ((BV.out.trans BP0.out).mono (Nat.le_succ _)))
          have hq3 : w.heap.size ≤ we.heap.size := BP.out.size
          have hqD3 : w.heap.size + 1 ≤ we.heap.size := Nat.le_of_lt (Nat.lt_of_le_of_lt GP.out.hD GP.out.box.lt)
          have GWB := Lib.hid GP.out
          have nnB : v3.ownBlock ≠ some bx := GP.out.n3
          go_wp2_with (fail)
          refine wp_region_makers 12 (fun i => i == 11) (appPhi (w.heap.size + 1) (.int .i64 (P a b : Nat))) appSh (fun _ => .slice (some ⟨0, 0, none⟩) 1 1) probe (by kernel_rfl) (by kernel_rfl) appPhi_stable (fun i v x _ => appSh_of i v x) (fun _ _ => ⟨0, rfl⟩) ?_
          intro W2 hW2 vsB hvsB
          obtain ⟨h1B, e1B⟩ : ∃ g, vsB 11 = .slice (some ⟨g, 0, none⟩) 1 1 := hvsB 11 rfl
          have BWB := Lib.hid (BP.out.trans (hW2.mono hq3))
          have cWB : ∃ x, extC W2 x := ⟨W2, extC_of (Below.refl _ _)⟩
          have bigB : ∀ x, extC W2 x → w.heap.size + 1 ≤ x.heap.size := fun x ⟨u, hu⟩ => by rw [hu]; exact Nat.le_trans (Nat.le_trans hqD3 hW2.size) (ext_size W2 u)
          have cB := (GP.out.keep hW2).box.cell 3
          simp at cB
          simp only [List.take_succ_cons, List.take_zero, List.drop_succ_cons, List.drop_zero]
          refine wpV_quiet cWB 11 0 _ _ (by decide) (by decide) ?_
          simp only [List.take_succ_cons, List.take_zero, List.drop_succ_cons, List.drop_zero]
          repeat (go_big_quiet_step (first
              | (go_at_call 165; with_reducible refine calls_ext (MK.out.product _ ?_ a b hlt hlt2); exact BWB.out.trans ((ext_below _ _).mono BWB.out.size))
              | (go_at_call 163; with_reducible refine calls_ext (MK.out.prodNum _ ?_ a b hlt hlt2); exact BWB.out.trans ((ext_below _ _).mono BWB.out.size))))
          refine wpQuiet_nil ?_
          refine wpV_make' rfl rfl (fun x hx => makesAt_mono (makes_one _ _ rfl rfl x) fun v x' ⟨g, p1, p2, p3⟩ => ⟨g, p1, Nat.le_trans (bigB x hx) p2, p3⟩) ?_
          rw [e1B]
          go_simp
          refine wpV_nil ?_
          intro wn hbB hfactsB _
          obtain ⟨gB, q1B, _, r1B⟩ := hfactsB 11 (by omega) rfl
          have egB : gB = h1B := by rw [e1B] at q1B; simp at q1B; exact q1B.symm
          subst egB
          have gkB := GP.out.keep hbB
          refine wpList_append_lies _ rfl _ _ _ rfl (w.heap.size + 1) 3 i0 _ 1 8 Try.underlying23 hi hz0 hz1 hz2 rfl (by omega) v3 (a * m + b) _ rfl gkB.o3 ⟨gB, 0, none⟩ 1 1 _ rfl rfl (World.news_of_block r1B) (by simp [Value.oneCell']) (by omega) hkk hbt (Nat.le_trans hqD3 hbB.size) _ rfl ?_
          intro g9 cap9 w8 hownB hgrowB hatB _
          have ffB : w8.frozen? ⟨bx, 3, none⟩ = false := by rw [hgrowB.frozen_far _ gkB.box.lt (Ne.symm nnB)]; exact gkB.box.frozen 3
          have ccB : w8.cell? ⟨bx, 3, none⟩ = some v3 := by rw [hgrowB.cell_far _ gkB.box.lt (Ne.symm nnB)]; exact gkB.box.cell 3
          obtain ⟨gpB, bpB⟩ := gkB.put3 hownB hgrowB hatB
          go_wp2_with (fail)
          have GQ := Lib.hid gpB
          have BQ := Lib.hid (BP0.out.trans ((hbB.mono hqD3).trans bpB))
          clear gpB bpB hownB hgrowB hatB ffB ccB gkB hbB hfactsB q1B r1B cB nnB GWB BWB cWB bigB hW2 hvsB
          obtain ⟨wf, hwf⟩ : ∃ wf, w8.setCell ⟨bx, 3, none⟩ (.slice (some ⟨g9, 0, none⟩) (a * m + b + 1) cap9) = wf := ⟨_, rfl⟩
          rw [hwf] at GQ BQ ⊢
          clear hwf
          go_wp2
          go_roundw
          case rel => exact ⟨b + 1, _, _, by omega, by go_num, by
            have := GQ.out
            rw [← tabZ_at hlt2, ← tabZ_at hlt2] at this
            exact this, BQ.out⟩
          case measure => simp [intOf]; omega
        · have hbm : b = m := by omega
          subst hbm
          go_wp2
          go_roundw
          case rel => exact ⟨a + 1, v2, v3, by omega, by go_num, by rw [Nat.succ_mul]; exact GR.out, BR.out⟩
          case measure => simp [intOf]; omega
    · have ham : a = m := by omega
      subst ham
      have hpos : 0 < a * a := Nat.mul_pos hm hm
      obtain ⟨h2, cap2, e2, _, _⟩ := GR.out.o2.form hpos
      obtain ⟨h3, cap3, e3, _, _⟩ := GR.out.o3.form hpos
      subst e2 e3
      have ZR := Lib.hid ((K1.out.below (BV.out) (Nat.lt_succ_self _)).below BR.out (Nat.lt_succ_self _))
      have c0 := GR.out.box.cell 0
      have c1 := GR.out.box.cell 1
      have c2 := GR.out.box.cell 2
      have c3 := GR.out.box.cell 3
      have d0 := ZR.out.cell 0
      have d1 := ZR.out.cell 1
      have d2 := ZR.out.cell 2
      have d3 := ZR.out.cell 3
      have f0 := ZR.out.frozen 0
      have f1 := ZR.out.frozen 1
      have f2 := ZR.out.frozen 2
      have f3 := ZR.out.frozen 3
      simp at c0 c1 c2 c3 d0 d1 d2 d3
      go_wp2
      refine bodyPost_ret (v := .agg #[.int .i64 a, .int .i64 o, .slice (some ⟨h2, 0, none⟩) (a * a) cap2, .slice (some ⟨h3, 0, none⟩) (a * a) cap3]) ?_ rfl ⟨_, rfl, ?_, ?_⟩
      · exact results_cell_row Try.results84 _ _ w.heap.size 25 _ (0, 0) _ rfl (store4_blk ZR.out) Try.underlying25 rfl (by kernel_rfl)
      · exact (GR.out.result ZR.out (by decide)).mono (Nat.le_succ _)
      · exact store4_below (B1.out.trans ((BV.out.trans BR.out).mono (Nat.le_succ _))) (Nat.le_refl _)

end Go.Proofs.Ytihjnjcfiipcoaa


/- Integers of both sides. -/
namespace Go.Proofs.Ytihjnjcfiipcoaa
open Go.RowKit
set_option maxRecDepth 100000

theorem making_ib (m : Nat) (hm : 1 ≤ m) (hm' : m ≤ 16) (w0 : World) : Making w0 (.agg #[.int .i64 m]) 166 164 162 163 167 165
    m (1 % m) (fun a => .int .i64 a) (fun a b => .int .i64 (((a + b) % m : Nat) : Int)) (fun a b => .int .i64 ((a * b % m : Nat) : Int)) (fun a b => (a + b) % m) (fun a b => a * b % m) (.int .i64 ((1 % m : Nat) : Int)) :=
  ⟨fun w _ => ibSize_any m w, fun w _ => ibOne_any m hm w, fun w _ => ibNumber_any m _ w, fun w _ a _ => ibElement_any m a w, fun w _ a b ha hb => ibSum_any m a b hm' ha hb w, fun w _ a b ha hb => ibProduct_any m a b hm' ha hb w,
    fun w _ _ _ _ _ => ibNumber_any m _ w, fun w _ _ _ _ _ => ibNumber_any m _ w⟩

theorem tabZ_length {m k : Nat} {f : Nat → Nat → Nat} : (tabZ m f k).length = k := by simp [tabZ]
theorem addZ_tab {m k : Nat} : addZ m k = tabZ m (fun a b => (a + b) % m) k := rfl
theorem mulZ_tab {m k : Nat} : mulZ m k = tabZ m (fun a b => a * b % m) k := rfl

/-- What Integers hands back. -/
def intOk (x : Int) : Bool := decide (1 ≤ x) && decide (x ≤ 16)
def intN (x : Int) : Int := if intOk x then x else 0
def intO (x : Int) : Int := if intOk x then ((1 % x.toNat : Nat) : Int) else 0
def intX (x : Int) : List Int := if intOk x then tabZ x.toNat (fun a b => (a + b) % x.toNat) (x.toNat * x.toNat) else []
def intY (x : Int) : List Int := if intOk x then tabZ x.toNat (fun a b => a * b % x.toNat) (x.toNat * x.toNat) else []

theorem sq16 {m : Nat} (hm' : m ≤ 16) : m * m ≤ 1000 := by
  have h2 : m * m ≤ 16 * 16 := Nat.mul_le_mul hm' hm'
  omega

set_option maxHeartbeats 2000000 in
theorem implIntegers_any (x : Int) (w : World) :
    Calls Try.prog 25 #[.int .i64 x] w fun e w' => ∃ v, e = .returned (.tuple #[v, .bool (intOk x)]) ∧ RingOut w.heap.size w' v (intN x) (intO x) (intX x) (intY x) ∧ Below w.heap.size w w' := by
  have b0 : Below w.heap.size w (w.alloc (.cells #[.int .i64 0, .int .i64 0, .slice none 0 0, .slice none 0 0] 25)) := (Below.refl _ _).alloc (Nat.le_refl _) _
  have k0 := Blk.new w 25 #[.int .i64 0, .int .i64 0, .slice none 0 0, .slice none 0 0]
  by_cases hx : 1 ≤ x ∧ x ≤ 16
  · obtain ⟨m, rfl⟩ : ∃ m : Nat, x = m := ⟨x.toNat, by omega⟩
    have e : intOk (m : Int) = true := by simp [intOk]; omega
    have hm : 1 ≤ m := by omega
    have hm' : m ≤ 16 := by omega
    simp only [intN, intO, intX, intY, e, if_true, Int.toNat_natCast]
    have B0 := Lib.hid b0
    have K0 := Lib.hid k0
    clear b0 k0 e
    go_enter Try.func25, Try.ntmps25
    go_wp2_with (go_at_call 84; refine (madeIb_any m m _ _ _ _ _ _ _ hm hm' _ (making_ib m hm hm' _)).mono ?_; rintro e1 w1 ⟨v, rfl, hn, hb1⟩; obtain ⟨A, la, ca, B, lb, cb, rfl, oA, oB, hr⟩ := hn.out (sq16 hm') tabZ_length tabZ_length; have OA := Lib.hid oA; have OB := Lib.hid oB; have HR := Lib.hid hr; have K1 := Lib.hid (K0.out.below hb1 K0.out.lt); have B1 := Lib.hid (B0.out.trans (hb1.mono B0.out.size)); clear hn hb1 oA oB hr; have d0 := K1.out.cell 0; have d1 := K1.out.cell 1; have d2 := K1.out.cell 2; have d3 := K1.out.cell 3; have f0 := K1.out.frozen 0; have f1 := K1.out.frozen 1; have f2 := K1.out.frozen 2; have f3 := K1.out.frozen 3; simp at d0 d1 d2 d3)
    refine bodyPost_ret (v := .tuple #[.agg #[.int .i64 m, .int .i64 ((1 % m : Nat) : Int), .slice A la ca, .slice B lb cb], .bool true]) ?_ rfl ⟨_, rfl, ?_, ?_⟩
    · exact results_cell_flag rfl _ _ w.heap.size 25 _ _ _ rfl rfl (store4_blk K1.out) Try.underlying25 rfl (by kernel_rfl)
    · have hD : w.heap.size + 1 ≤ (w.alloc (.cells #[.int .i64 0, .int .i64 0, .slice none 0 0, .slice none 0 0] 25)).heap.size := by simp
      exact RingOut.lower (store4_out ⟨A, la, ca, B, lb, cb, rfl, OA.out.lower hD, OB.out.lower hD, HR.out⟩ (Nat.lt_succ_self _)) (Nat.le_succ _)
    · exact store4_below B1.out (Nat.le_refl _)
  · have e : intOk x = false := by simp [intOk]; omega
    simp only [intN, intO, intX, intY, e, Bool.false_eq_true, if_false]
    have B0 := Lib.hid b0
    have K0 := Lib.hid k0
    have d0 := K0.out.cell 0
    have d1 := K0.out.cell 1
    have d2 := K0.out.cell 2
    have d3 := K0.out.cell 3
    have f0 := K0.out.frozen 0
    have f1 := K0.out.frozen 1
    have f2 := K0.out.frozen 2
    have f3 := K0.out.frozen 3
    have tt : (decide (x < 1) || decide (16 < x)) = true := by simp; omega
    simp at d0 d1 d2 d3
    clear b0 k0
    go_enter Try.func25, Try.ntmps25
    go_wp2
    all_goals
      refine bodyPost_ret (v := .tuple #[.agg #[.int .i64 0, .int .i64 0, .slice none 0 0, .slice none 0 0], .bool false]) ?_ rfl ⟨_, rfl, RingOut.zero, B0.out⟩
      exact results_cell_flag rfl _ _ w.heap.size 25 _ _ _ rfl rfl K0.out Try.underlying25 rfl (by kernel_rfl)

set_option maxHeartbeats 2000000 in
theorem specIntegers_any (x : Int) (w : World) :
    Calls Try.prog 26 #[.int .i64 x] w fun e w' => ∃ v, e = .returned (.tuple #[v, .bool (intOk x)]) ∧ RingOut w.heap.size w' v (intN x) (intO x) (intX x) (intY x) ∧ Below w.heap.size w w' := by
  have b0 : Below w.heap.size w (w.alloc (.cells #[.int .i64 0, .int .i64 0, .slice none 0 0, .slice none 0 0] 25)) := (Below.refl _ _).alloc (Nat.le_refl _) _
  have k0 := Blk.new w 25 #[.int .i64 0, .int .i64 0, .slice none 0 0, .slice none 0 0]
  by_cases hx : 1 ≤ x ∧ x ≤ 16
  · obtain ⟨m, rfl⟩ : ∃ m : Nat, x = m := ⟨x.toNat, by omega⟩
    have e : intOk (m : Int) = true := by simp [intOk]; omega
    have e2 := Lib.hid (show inC (m : Int) 1 16 = true by simp [inC]; omega)
    have hm : 1 ≤ m := by omega
    have hm' : m ≤ 16 := by omega
    simp only [intN, intO, intX, intY, e, if_true, Int.toNat_natCast]
    have B0 := Lib.hid b0
    have K0 := Lib.hid k0
    clear b0 k0 e
    go_enter Try.func26, Try.ntmps26
    go_wp2_with (first | (go_at_call 85; refine (l1In_any m 1 16 _).mono ?_; rintro e1 w1 ⟨rfl, rfl⟩; rw [e2.out]) | (go_at_call 86; refine (l1Integers_any m hm hm' _).mono ?_; rintro e1 w1 ⟨v, rfl, hn, hb1⟩; obtain ⟨A, la, ca, B, lb, cb, rfl, oA, oB, hr⟩ := hn.out (sq16 hm') (by simp [addZ]) (by simp [mulZ]); have OA := Lib.hid oA; have OB := Lib.hid oB; have HR := Lib.hid hr; have K1 := Lib.hid (K0.out.below hb1 K0.out.lt); have B1 := Lib.hid (B0.out.trans (hb1.mono B0.out.size)); clear hn hb1 oA oB hr; have d0 := K1.out.cell 0; have d1 := K1.out.cell 1; have d2 := K1.out.cell 2; have d3 := K1.out.cell 3; have f0 := K1.out.frozen 0; have f1 := K1.out.frozen 1; have f2 := K1.out.frozen 2; have f3 := K1.out.frozen 3; simp at d0 d1 d2 d3))
    refine bodyPost_ret (v := .tuple #[.agg #[.int .i64 m, .int .i64 ((1 % m : Nat) : Int), .slice A la ca, .slice B lb cb], .bool true]) ?_ rfl ⟨_, rfl, ?_, ?_⟩
    · exact results_cell_flag rfl _ _ w.heap.size 25 _ _ _ rfl rfl (store4_blk K1.out) Try.underlying25 rfl (by kernel_rfl)
    · have hD : w.heap.size + 1 ≤ (w.alloc (.cells #[.int .i64 0, .int .i64 0, .slice none 0 0, .slice none 0 0] 25)).heap.size := by simp
      exact RingOut.lower (store4_out ⟨A, la, ca, B, lb, cb, rfl, OA.out.lower hD, OB.out.lower hD, HR.out⟩ (Nat.lt_succ_self _)) (Nat.le_succ _)
    · exact store4_below B1.out (Nat.le_refl _)
  · have e : intOk x = false := by simp [intOk]; omega
    simp only [intN, intO, intX, intY, e, Bool.false_eq_true, if_false]
    have B0 := Lib.hid b0
    have K0 := Lib.hid k0
    have e2 := Lib.hid (show inC x 1 16 = false by simp [inC]; omega)
    have d0 := K0.out.cell 0
    have d1 := K0.out.cell 1
    have d2 := K0.out.cell 2
    have d3 := K0.out.cell 3
    have f0 := K0.out.frozen 0
    have f1 := K0.out.frozen 1
    have f2 := K0.out.frozen 2
    have f3 := K0.out.frozen 3
    simp at d0 d1 d2 d3
    clear b0 k0
    go_enter Try.func26, Try.ntmps26
    go_wp2_with (go_at_call 85; refine (l1In_any x 1 16 _).mono ?_; rintro e1 w1 ⟨rfl, rfl⟩; rw [e2.out])
    refine bodyPost_ret (v := .tuple #[.agg #[.int .i64 0, .int .i64 0, .slice none 0 0, .slice none 0 0], .bool false]) ?_ rfl ⟨_, rfl, RingOut.zero, B0.out⟩
    exact results_cell_flag rfl _ _ w.heap.size 25 _ _ _ rfl rfl K0.out Try.underlying25 rfl (by kernel_rfl)

end Go.Proofs.Ytihjnjcfiipcoaa


/- Rings that a call hands out, with the blocks of empty slices. -/
namespace Go.Proofs.Ytihjnjcfiipcoaa
open Go.RowKit
set_option maxRecDepth 100000

/-- A ring whose memory is the call's own, the blocks of empty slices too. -/
def RingOutB (D : Nat) (w : World) (v : Value) (n o : Int) (X Y : List Int) : Prop :=
  ∃ (A : Option Addr) (la ca : Nat) (B : Option Addr) (lb cb : Nat), v = .agg #[.int .i64 n, .int .i64 o, .slice A la ca, .slice B lb cb] ∧ Own w D A la X ∧ Own w D B lb Y ∧ (Apart A la B lb ∧ la ≤ 1048570 ∧ lb ≤ 1048570 ∧ la + lb ≤ 1048570 ∧ la ≤ ca ∧ lb ≤ cb) ∧ (∀ a, A = some a → D ≤ a.block ∧ a.block < w.heap.size) ∧ (∀ a, B = some a → D ≤ a.block ∧ a.block < w.heap.size)
theorem RingOutB.zero {D : Nat} {w : World} : RingOutB D w (.agg #[.int .i64 0, .int .i64 0, .slice none 0 0, .slice none 0 0]) 0 0 [] [] :=
  ⟨none, 0, 0, none, 0, 0, rfl, Own.nil, Own.nil, ⟨fun p h => (by obtain ⟨_, _, _, e, _⟩ := h; cases e), by omega, by omega, by omega, by omega, by omega⟩, fun _ h => (by cases h), fun _ h => (by cases h)⟩
theorem RingOutB.next {D : Nat} {w w' : World} {v : Value} {n o : Int} {X Y : List Int} (h : RingOutB D w v n o X Y) (hb : Below w.heap.size w w') : RingOutB D w' v n o X Y := by
  obtain ⟨A, la, ca, B, lb, cb, e, h1, h2, h3, h4, h5⟩ := h
  exact ⟨A, la, ca, B, lb, cb, e, h1.next hb, h2.next hb, h3, fun a ha => ⟨(h4 a ha).1, Nat.lt_of_lt_of_le (h4 a ha).2 hb.size⟩, fun a ha => ⟨(h5 a ha).1, Nat.lt_of_lt_of_le (h5 a ha).2 hb.size⟩⟩
theorem RingOutB.lower {D D' : Nat} {w : World} {v : Value} {n o : Int} {X Y : List Int} (h : RingOutB D w v n o X Y) (hD : D' ≤ D) : RingOutB D' w v n o X Y := by
  obtain ⟨A, la, ca, B, lb, cb, e, h1, h2, h3, h4, h5⟩ := h
  exact ⟨A, la, ca, B, lb, cb, e, h1.lower hD, h2.lower hD, h3, fun a ha => ⟨Nat.le_trans hD (h4 a ha).1, (h4 a ha).2⟩, fun a ha => ⟨Nat.le_trans hD (h5 a ha).1, (h5 a ha).2⟩⟩
theorem store4_outB {w : World} {b D : Nat} {v v0 v1 v2 v3 : Value} {n o : Int} {X Y : List Int} (h : RingOutB D w v n o X Y) (hb : b < D) : RingOutB D (store4 w b v0 v1 v2 v3) v n o X Y := by
  obtain ⟨A, la, ca, B, lb, cb, e, h1, h2, h3, h4, h5⟩ := h
  have hs : (store4 w b v0 v1 v2 v3).heap.size = w.heap.size := by simp [store4]
  exact ⟨A, la, ca, B, lb, cb, e, store4_ownS h1 hb, store4_ownS h2 hb, h3, fun a ha => by rw [hs]; exact h4 a ha, fun a ha => by rw [hs]; exact h5 a ha⟩
theorem NewRing.outB {D : Nat} {w : World} {v : Value} {n o : Int} {k : Nat} {X Y : List Int} (h : NewRing D w v n o k X Y) (hk : k ≤ 1000) (hX : X.length = k) (hY : Y.length = k) : RingOutB D w v n o X Y := by
  obtain ⟨A, la, ca, B, lb, cb, e, h1, h2, h3⟩ := h.out hk hX hY
  obtain ⟨v2, v3, e2, r2, r3, _⟩ := h
  rw [e] at e2
  injection e2 with e2
  simp only [Array.mk.injEq, List.cons.injEq, and_true, true_and] at e2
  obtain ⟨rfl, rfl⟩ := e2
  exact ⟨A, la, ca, B, lb, cb, e, h1, h2, h3, fun a ha => r2.lt a.block (by rw [ha]; rfl), fun a ha => r3.lt a.block (by rw [ha]; rfl)⟩

end Go.Proofs.Ytihjnjcfiipcoaa


/- The drawing side: draws of stage 2. -/
namespace Go.Proofs.Ytihjnjcfiipcoaa
open Go.RowKit
set_option maxRecDepth 100000

set_option maxHeartbeats 4000000 in
theorem drawIntegers_any (A : Option Addr) (n c : Nat) (w : World) (hb : Byts w w.heap.size A n) (hn : n ≤ 1048576) (hc : n ≤ c) (hc2 : c ≤ 9223372036854775807) :
    Calls Try.prog 24 #[.slice A n c] w fun e w' => ∃ x : Int, e = .returned (.int .i64 x) ∧ Below w.heap.size w w' := by
  go_enter Try.func24, Try.ntmps24
  go_wp2_with (fail)
  refine (l13Open_any A n c w hb (by omega) hc hc2).mono ?_
  rintro e w1 ⟨rfl, hb1, hr1, hlt1⟩
  obtain ⟨g, hg⟩ : ∃ g, w.heap.size = g := ⟨_, rfl⟩
  rw [hg] at hr1 hlt1 ⊢
  have B1 := Lib.hid (show Below g w w1 by rw [← hg]; exact hb1)
  have R1 := Lib.hid hr1
  have G := Lib.hid hg
  clear hb1 hr1 hg hlt1
  go_wp2_with (fail)
  refine (pick_any g 0 _ _ R1.out (by omega)).mono ?_
  rintro e w2 ⟨x, rfl, h0, h1, hw2, hr2⟩
  have X2 := Lib.hid hw2
  have R2 := Lib.hid hr2
  have hx1 : x ≤ 15 := by omega
  have hg2 := hr2.lt
  clear hw2 hr2 h1
  obtain ⟨y, hy⟩ : ∃ y, (1 : Int) + x = y := ⟨_, rfl⟩
  have hyy : IntKind.i64.wrap (1 + x) = y := by rw [hy]; exact IntWalk.i64_in _ (by omega)
  go_wp2_with (fail)
  have bA : Below w2.heap.size w2 (w2.alloc (.cells #[.int .i64 y, .int .i64 4, .int .i64 6, .int .i64 1, .int .i64 16, .int .i64 0, .int .i64 17, .int .i64 (-1), .int .i64 12] 3)) := (Below.refl _ _).alloc (Nat.le_refl _) _
  refine (num_any g 1 _ 9 _ _ [y, 4, 6, 1, 16, 0, 17, -1, 12] _ (R2.out.next bA) (by omega) (ints_lit (w := w2) (l := [y, 4, 6, 1, 16, 0, 17, -1, 12]) (cs := #[.int .i64 y, .int .i64 4, .int .i64 6, .int .i64 1, .int .i64 16, .int .i64 0, .int .i64 17, .int .i64 (-1), .int .i64 12]) (T := 3) rfl) (fun a ha => by injection ha with ha; subst ha; show w2.heap.size ≠ g; omega) (by omega) (by omega)).mono ?_
  rintro e w3 ⟨j, hj, rfl, hw3, hr3⟩
  obtain ⟨z, hz⟩ : ∃ z, ([y, 4, 6, 1, 16, 0, 17, -1, 12] : List Int)[j]?.getD 0 = z := ⟨_, rfl⟩
  rw [hz]
  clear hz
  have X3 := Lib.hid ((X2.out.trans (Below.wk bA)).trans hw3)
  clear hw3 hr3 bA
  go_wp2_with (fail)
  go_ret
  exact ⟨_, rfl, by rw [G.out]; exact B1.out.trans (X3.out.below (B := g) (Nat.le_refl _) (by rw [← G.out]; exact B1.out.size))⟩

end Go.Proofs.Ytihjnjcfiipcoaa


/- The drawing side: l2Order, a list of new numbers. -/
namespace Go.Proofs.Ytihjnjcfiipcoaa
open Go.RowKit
set_option maxRecDepth 100000

/-- A row of ints that a call has made. -/
def OrdR (D : Nat) (w : World) (b k cap : Nat) : Prop := ∃ L : List Int, L.length = k ∧ w.ownsRow D 3 1 (.slice (some ⟨b, 0, none⟩) k cap) k (intsV L)
section
variable {D b k cap g : Nat} {w w' : World}
theorem OrdR.lt (h : OrdR D w b k cap) : D ≤ b ∧ b < w.heap.size := by
  obtain ⟨L, _, h2⟩ := h
  exact h2.lt b rfl
theorem OrdR.wk (h : OrdR D w b k cap) (hw : Wk g w w') (hg : g < D) : OrdR D w' b k cap := by
  have h0 := h.lt
  obtain ⟨L, h1, h2⟩ := h
  exact ⟨L, h1, h2.kept hw.grown (.inr fun e => by injection e with e; have e : b = g := e; omega)⟩
theorem OrdR.next (h : OrdR D w b k cap) (hb : Below w.heap.size w w') : OrdR D w' b k cap := by
  obtain ⟨L, h1, h2⟩ := h
  exact ⟨L, h1, own_next h2 hb⟩
theorem OrdR.at_ (h : OrdR D w b k cap) {j : Nat} (hj : j < k) : (∃ x : Int, w.cell? ⟨b, j, none⟩ = some (.int .i64 x)) ∧ w.frozen? ⟨b, j, none⟩ = false := by
  obtain ⟨L, h1, h2⟩ := h
  refine ⟨⟨_, (h2.cellAt j (by omega)).trans (intsV_get (by omega))⟩, h2.frozenAt j⟩
theorem OrdR.set_ (h : OrdR D w b k cap) (j : Nat) (x : Int) : OrdR D (w.setCell ⟨b, j, none⟩ (.int .i64 x)) b k cap := by
  obtain ⟨L, h1, h2⟩ := h
  refine ⟨L.set j x, by simpa using h1, ?_⟩
  rw [← intsV_set]
  exact (h2.stored j (.int .i64 x)).1
theorem OrdR.out_ (h : OrdR D w b k cap) (hk : k ≤ 1000000) : ∃ L, SliceOut D w (.slice (some ⟨b, 0, none⟩) k cap) L := by
  obtain ⟨L, h1, h2⟩ := h
  refine ⟨L, _, _, _, rfl, own_of_row h2 h1, ?_, by omega⟩
  rcases h2.2 with ⟨e, _⟩ | ⟨g', cap', cur, e, _, _, hnc, _⟩
  · cases e
  · injection e with e1 e2 e3
    subst e3
    exact hnc
theorem row_zero {D : Nat} {w : World} {v : Value} {xs : List Value} {T : TypeId} (h : w.ownsRow D T 1 v 0 xs) : ∃ A cap, v = .slice A 0 cap ∧ SliceOut D w (.slice A 0 cap) [] := by
  rcases h.2 with ⟨rfl, _⟩ | ⟨g', cap', cur, rfl, _⟩
  · exact ⟨_, _, rfl, SliceOut.nil⟩
  · exact ⟨_, _, rfl, _, _, _, rfl, Own.nil, Nat.zero_le _, by omega⟩
theorem Wk.setFar (h : Wk g w w') {p : Addr} (hp : w.heap.size ≤ p.block) (u : Value) : Wk g w (w'.setCell p u) :=
  ⟨h.os, h.tape, h.output, by simpa using h.size, fun i hi hg => (Below.heap_setCell w' p u i (by omega)).trans (h.block i hi hg)⟩
theorem Rdr.setFar {j : Nat} (h : Rdr w g j) {p : Addr} (hp : g < p.block) (u : Value) : Rdr (w.setCell p u) g j := by
  obtain ⟨A, n, c, q, h1, h2, h3, h4⟩ := h
  exact ⟨A, n, c, q, h1.far (by omega) _, h2, h3, h4.cells fun a ha => World.cell?_setCell_other _ _ _ _ fun e => by subst e; omega⟩
end

set_option maxHeartbeats 4000000 in
theorem l2Order_any (g k : Nat) (n : Int) (w : World) (hr : Rdr w g k) (hk : k ≤ 1125899906841000) :
    Calls Try.prog 112 #[.pointer (some ⟨g, 0, none⟩), .int .i64 n] w fun e w' => ∃ v L, e = .returned v ∧ SliceOut w.heap.size w' v L ∧ Wk g w w' ∧ Rdr w' g (k + 40) := by
  obtain ⟨i0, hi, hz0, hz1, hz2⟩ := info_parts int_info
  have hgD := hr.lt
  obtain ⟨c, hc⟩ : ∃ c : Nat, max (min n 17) 0 = c := ⟨(max (min n 17) 0).toNat, by omega⟩
  have hc17 : c ≤ 17 := by omega
  have R0 := Lib.hid hr
  clear hr
  go_enter Try.func112, Try.ntmps112
  go_wp2
  have O0 := Lib.hid (own_literal (w := w) (base := w.heap.size) (e := 3) [] (Nat.le_refl _) (by unfold maxLen; simp))
  have B0 := Lib.hid ((Below.refl w.heap.size w).alloc (Nat.le_refl _) (.cells #[] 3))
  go_loopw [5, 14] (fun vv i wr => ∃ (j : Nat) (L : List Int), j ≤ c ∧ i = .int .i64 j ∧ L.length = j ∧ wr.ownsRow w.heap.size 3 1 vv j (intsV L) ∧ Below w.heap.size w wr) (fun _ i _ => c - (intOf i).toNat)
  case atStart => exact ⟨0, [], Nat.zero_le _, rfl, rfl, O0.out, B0.out⟩
  case round =>
    obtain ⟨j, L, hj, rfl, hL, hown, hbel⟩ := hrel
    have OW := Lib.hid hown
    have BW := Lib.hid hbel
    have HL := Lib.hid hL
    have hsz := hbel.size
    clear hown hbel hL
    by_cases hlt : j < c
    · have wr2 : Below wr.heap.size wr (wr.alloc (.cells #[.int .i64 (j : Int)] 3)) := (Below.refl _ _).alloc (Nat.le_refl _) _
      go_wp2_with (at_builtin; refine wpList_append_own _ rfl _ _ 23 rfl w.heap.size 3 i0 (.int .i64 0) 1 8 Try.underlying23 hi hz0 hz1 hz2 rfl (by decide) _ _ _ rfl (OW.out.alloc _) ⟨wr.heap.size, 0, none⟩ 1 1 [.int .i64 (j : Int)] rfl rfl (by intro j u hj; match j, hj with | 0, hj => simp at hj; subst hj; simp [Addr.add]) (by intro u hu; simp at hu; subst hu; rfl) (by unfold maxLen; omega) (by omega) (by simp; omega) ?_; intro v3 w3 hown3 hg3 _)
      have B3 := Lib.hid ((BW.out.trans (wr2.mono hsz)).grown hg3 (Nat.le_trans hsz wr2.size) (fun k hk => (OW.out.lt k hk).1))
      have O3 := Lib.hid (show w3.ownsRow w.heap.size 3 1 v3 (j + 1) (intsV (L ++ [(j : Int)])) by
        rw [← intsV_one]; exact hown3)
      clear hown3 hg3 wr2
      go_wp2
      go_roundw
      case rel => exact ⟨j + 1, L ++ [(j : Int)], by omega, by go_num, by simp [HL.out], O3.out, B3.out⟩
      case measure => simp [intOf]; omega
    · have hjc : j = c := by omega
      subst hjc
      have X1 := Lib.hid (Below.wk (g := g) BW.out)
      have R1 := Lib.hid (R0.out.next BW.out)
      clear hlt R0 B0 O0 hj
      obtain ⟨wq, rfl⟩ : ∃ ws, ws = wr := ⟨_, rfl⟩
      by_cases hc0 : j = 0
      · subst hc0
        obtain ⟨A, cap, rfl, hso⟩ := row_zero OW.out
        have SO := Lib.hid hso
        have t1 : decide ((1 : Int) < ((0 : Nat) : Int)) = false := by decide
        have t2 : decide (((0 : Nat) : Int) > 0) = false := by decide
        clear OW hso
        go_wp2
        go_loopw [7] (fun kv wr => kv = .int .i64 1 ∧ wr = wq) (fun _ _ => 0)
        case atStart => exact ⟨rfl, rfl⟩
        case round =>
          obtain ⟨rfl, rfl⟩ := hrel
          go_wp2
          go_ret
          exact ⟨_, _, rfl, SO.out, X1.out, R1.out.more (by omega)⟩
      · obtain ⟨b, cap, rfl, _, _⟩ := OW.out.form (by omega)
        have O1 := Lib.hid (show OrdR w.heap.size wq b j cap from ⟨L, HL.out, OW.out⟩)
        have hj1 : 1 ≤ j := by omega
        clear OW HL
        go_wp2
        go_loopw [7] (fun kv wr => ∃ i : Nat, 1 ≤ i ∧ i ≤ j ∧ kv = .int .i64 i ∧ OrdR w.heap.size wr b j cap ∧ Wk g w wr ∧ Rdr wr g (k + i)) (fun kv _ => j - (intOf kv).toNat)
        case atStart => exact ⟨1, Nat.le_refl _, hj1, rfl, O1.out, X1.out, R1.out.more (by omega)⟩
        case round =>
          obtain ⟨i, hi1, hij, rfl, ho, hx, hr⟩ := hrel
          obtain ⟨ws, rfl⟩ : ∃ ws, ws = wr := ⟨_, rfl⟩
          have O2 := Lib.hid ho
          have X2 := Lib.hid hx
          have R2 := Lib.hid hr
          clear O1 X1 R1 ho hx hr BW
          by_cases hlt : i < j
          · have s1 : IntKind.i64.wrap ((j : Int) - 1) = (j : Int) - 1 := IntWalk.i64_in _ (by omega)
            go_wp2_with (fail)
            refine (pick_any g (k + i) _ _ R2.out (by omega)).mono ?_
            rintro e w3 ⟨x, rfl, h0, h1, hw3, hr3⟩
            have h1' : x < (j : Int) - 1 ∨ x = 0 := by first | exact h1 | (rw [s1] at h1; exact h1)
            obtain ⟨x, rfl⟩ := Int.eq_ofNat_of_zero_le h0
            obtain ⟨y, hy⟩ : ∃ y : Nat, 1 + x = y := ⟨_, rfl⟩
            have hyj : y < j := by omega
            have s2 : IntKind.i64.wrap (1 + (x : Int)) = (y : Int) := by rw [show 1 + (x : Int) = (y : Int) by omega]; exact IntWalk.i64_in _ (by omega)
            have O3 := Lib.hid (O2.out.wk hw3 hgD)
            have X3 := Lib.hid (X2.out.trans hw3)
            have R3 := Lib.hid hr3
            have lb := O3.out.lt
            obtain ⟨⟨z1, q1⟩, f1⟩ := O3.out.at_ hyj
            obtain ⟨⟨z2, q2⟩, f2⟩ := O3.out.at_ hlt
            clear hw3 hr3 h1 h1' h0 hy O2 X2 R2
            go_upto_region 13 with (fail)
            obtain ⟨V, hV⟩ : ∃ V, w3.setCell ⟨b, y, none⟩ (.int .i64 z2) = V := ⟨_, rfl⟩
            rw [hV]
            have O4 := Lib.hid (show OrdR w.heap.size V b j cap by rw [← hV]; exact O3.out.set_ y z2)
            have X4 := Lib.hid (show Wk g w V by rw [← hV]; exact X3.out.setFar (p := ⟨b, y, none⟩) lb.1 _)
            have R4 := Lib.hid (show Rdr V g (k + i + 1) by rw [← hV]; exact R3.out.setFar (p := ⟨b, y, none⟩) (Nat.lt_of_lt_of_le hgD lb.1) _)
            clear q1 q2 f1 f2 O3 X3 R3 hV
            obtain ⟨⟨z3, q3⟩, f3⟩ := O4.out.at_ hlt
            go_wp2
            go_roundw
            case rel => exact ⟨i + 1, by omega, by omega, by go_num, O4.out.set_ i z1, X4.out.setFar (p := ⟨b, i, none⟩) lb.1 _, R4.out.setFar (p := ⟨b, i, none⟩) (Nat.lt_of_lt_of_le hgD lb.1) _⟩
            case measure => simp [intOf]; omega
          · have hij' : i = j := by omega
            subst hij'
            have t2 : decide ((i : Int) > 0) = true := by simp; omega
            go_wp2_with (fail)
            refine (pick_any g (k + i) _ _ R2.out (by omega)).mono ?_
            rintro e w3 ⟨x, rfl, h0, h1, hw3, hr3⟩
            have O3 := Lib.hid (O2.out.wk hw3 hgD)
            have X3 := Lib.hid (X2.out.trans hw3)
            have R3 := Lib.hid hr3
            clear hw3 hr3 h1 h0 O2 X2 R2
            by_cases hx0 : x = 0
            · have t3 : (x == 0) = true := by simp [hx0]
              go_wp2_with (fail)
              refine (pick_any g (k + i + 1) _ _ R3.out (by omega)).mono ?_
              rintro e w4 ⟨y, rfl, h0, h1, hw4, hr4⟩
              obtain ⟨y, rfl⟩ := Int.eq_ofNat_of_zero_le h0
              have hyi : y < i := by omega
              have O4 := Lib.hid (O3.out.wk hw4 hgD)
              have X4 := Lib.hid (X3.out.trans hw4)
              have R4 := Lib.hid hr4
              have S4 := hr4.lt
              clear hw4 hr4 h1 h0 O3 X3 R3
              go_wp2_with (fail)
              have bA : Below w4.heap.size w4 (w4.alloc (.cells #[.int .i64 0, .int .i64 1, .int .i64 (-1), .int .i64 16] 3)) := (Below.refl _ _).alloc (Nat.le_refl _) _
              refine (num_any g (k + i + 1 + 1) _ 4 _ _ [0, 1, -1, 16] _ (R4.out.next bA) (by omega) (ints_lit (w := w4) (l := [0, 1, -1, 16]) (cs := #[.int .i64 0, .int .i64 1, .int .i64 (-1), .int .i64 16]) (T := 3) rfl) (fun a ha => by injection ha with ha; subst ha; show w4.heap.size ≠ g; omega) (by omega) (by omega)).mono ?_
              rintro e w5 ⟨q, hq, rfl, hw5, hr5⟩
              obtain ⟨z, hz⟩ : ∃ z, ([0, 1, -1, 16] : List Int)[q]?.getD 0 = z := ⟨_, rfl⟩
              rw [hz]
              clear hz
              have O5 := Lib.hid ((O4.out.next bA).wk hw5 hgD)
              have X5 := Lib.hid ((X4.out.trans (Below.wk bA)).trans hw5)
              have R5 := Lib.hid hr5
              have lb := O5.out.lt
              obtain ⟨⟨z3, q3⟩, f3⟩ := O5.out.at_ hyi
              clear hw5 hr5 bA O4 X4 R4
              go_wp2
              go_ret
              obtain ⟨L', hso⟩ := (O5.out.set_ y z).out_ (by omega)
              exact ⟨_, L', rfl, hso, X5.out.setFar (p := ⟨b, y, none⟩) lb.1 _, (R5.out.setFar (p := ⟨b, y, none⟩) (Nat.lt_of_lt_of_le hgD lb.1) _).more (by omega)⟩
            · have t3 : (x == 0) = false := by simp [hx0]
              go_wp2
              go_ret
              obtain ⟨L', hso⟩ := O3.out.out_ (by omega)
              exact ⟨_, L', rfl, hso, X3.out, R3.out.more (by omega)⟩

end Go.Proofs.Ytihjnjcfiipcoaa


/- The drawing side: a ring and a list. -/
namespace Go.Proofs.Ytihjnjcfiipcoaa
open Go.RowKit
set_option maxRecDepth 100000

/-- What the last statement of a draw draws: at operation c a list, at operation s the ring is stored. -/
structure LastPhiL (D c s b : Nat) (cs : Array Value) (i : Nat) (v : Value) (w : World) : Prop where
  c : i = c → ∃ L, SliceOut D w v L
  s : i = s → Blk w b 25 cs
structure LastShL (c : Nat) (i : Nat) (v : Value) : Prop where
  c : i = c → ∃ A n c', v = .slice A n c'
theorem LastShL_zero (c i : Nat) : LastShL c i (.slice none 0 0) := ⟨fun _ => ⟨_, _, _, rfl⟩⟩
theorem LastPhiL.sh {D c s b : Nat} {cs : Array Value} {i : Nat} {v : Value} {w : World} (h : LastPhiL D c s b cs i v w) : LastShL c i v := ⟨fun e => by
  obtain ⟨L, A, l, c', e1, _⟩ := h.c e
  exact ⟨A, l, c', e1⟩⟩
theorem SliceOut.wkT {g D : Nat} {T : Nat → Option Obj} {w w' : World} {v : Value} {L : List Int} (h : SliceOut D w v L) (hw : WkT g T w w') (hg : g < D) (hT : ∀ k, D ≤ k → T k = none) : SliceOut D w' v L := by
  obtain ⟨A, l, c, e, h1, h2⟩ := h
  exact ⟨A, l, c, e, h1.wkT hw hg hT, h2⟩
theorem SliceOut.lower {D D' : Nat} {w : World} {v : Value} {L : List Int} (h : SliceOut D w v L) (hD : D' ≤ D) : SliceOut D' w v L := by
  obtain ⟨A, l, c, e, h1, h2⟩ := h
  exact ⟨A, l, c, e, h1.lower hD, h2⟩

set_option maxHeartbeats 4000000 in
theorem drawRenameRing_any (A : Option Addr) (n c : Nat) (w : World) (hb : Byts w w.heap.size A n) (hn : n ≤ 1048576) (hc : n ≤ c) (hc2 : c ≤ 9223372036854775807) :
    Calls Try.prog 47 #[.slice A n c] w fun e w' => ∃ (v : Value) (A' : Option Addr) (n' c' : Nat) (L : List Int), e = .returned (.tuple #[v, .slice A' n' c']) ∧ AnyR w.heap.size w' v ∧ SliceOut w.heap.size w' (.slice A' n' c') L ∧ Below w.heap.size w w' := by
  obtain ⟨W, hW⟩ : ∃ W, w.alloc (.cells #[.int .i64 0, .int .i64 0, .slice none 0 0, .slice none 0 0] 25) = W := ⟨_, rfl⟩
  have hs : W.heap.size = w.heap.size + 1 := by subst hW; simp
  have bW : Below w.heap.size w W := by subst hW; exact (Below.refl _ _).alloc (Nat.le_refl _) _
  have K0 := Lib.hid (show Blk W w.heap.size 25 #[.int .i64 0, .int .i64 0, .slice none 0 0, .slice none 0 0] by subst hW; exact Blk.new w _ _)
  have HB := Lib.hid (hb.grow bW)
  have B0 := Lib.hid bW
  clear bW
  go_enter Try.func47, Try.ntmps47
  go_upto_region 1 with (fail)
  clear hW
  go_wp2_with (fail)
  refine (l13Open_any A n c W HB.out (by omega) hc hc2).mono ?_
  rintro e w1 ⟨rfl, hb1, hr1, hlt1⟩
  obtain ⟨g, hg⟩ : ∃ g, W.heap.size = g := ⟨_, rfl⟩
  rw [hg] at hr1 hlt1 ⊢
  have hgw : w.heap.size < g := by omega
  have K1 := Lib.hid (K0.out.below hb1 (by omega))
  have B1 := Lib.hid (B0.out.trans (hb1.mono (by omega)))
  have R1 := Lib.hid hr1
  clear hb1 hr1 hg hs
  have nK : w.heap.size ≠ g := by omega
  have X1 := Lib.hid (Below.wk (g := g) B1.out)
  go_wp2_with (fail)
  refine (l1Some_any g 0 w1 R1.out (by omega)).mono ?_
  rintro e w2 ⟨v, rfl, hA, hw2, hr2⟩
  have F2 := hA
  obtain ⟨n2, o2, A2, B2, q2, ca2, cb2, X2, Y2, rfl, _, _, _⟩ := hA.data
  have s1 := X1.out.size
  have s2 := hw2.size
  have K2 := K1.out.wk hw2 nK
  have X2 := X1.out.trans hw2
  clear hA
  go_upto_region 3 with (fail)
  obtain ⟨V, hV⟩ : ∃ V, w2.alloc (.cells #[.int .i64 n2, .int .i64 o2, .slice A2 q2 ca2, .slice B2 q2 cb2] 25) = V := ⟨_, rfl⟩
  have bV : Below w2.heap.size w2 V := by subst hV; exact (Below.refl _ _).alloc (Nat.le_refl _) _
  obtain ⟨bx, hbx⟩ : ∃ b, b = w2.heap.size := ⟨_, rfl⟩
  have lD : g < w1.heap.size := R1.out.lt
  have lK : w.heap.size < w1.heap.size := K1.out.lt
  have nB : bx ≠ g := by omega
  have nBK : bx ≠ w.heap.size := by omega
  have KB3 := Lib.hid (show Blk V bx 25 #[.int .i64 n2, .int .i64 o2, .slice A2 q2 ca2, .slice B2 q2 cb2] by subst hV hbx; exact Blk.new w2 _ _)
  have K3 := Lib.hid (K2.next bV)
  have X3 := Lib.hid (X2.trans (Below.wk bV))
  have R3 := Lib.hid (hr2.next bV)
  have F3 := Lib.hid (F2.next bV)
  rw [← hbx, hV]
  have lVV : w1.heap.size ≤ V.heap.size := Nat.le_trans hw2.size bV.size
  clear hV bV hbx K2 X2 hr2 F2 hw2 s1 s2
  go_upto_region 3 with (fail)
  refine wp_region_makersR (WkT g (goal1 w.heap.size #[.int .i64 n2, .int .i64 o2, .slice A2 q2 ca2, .slice B2 q2 cb2])) (RdG g (40 + 600)) 6 (fun i => i == 4 || i == 5) (LastPhiL w1.heap.size 4 5 w.heap.size #[.int .i64 n2, .int .i64 o2, .slice A2 q2 ca2, .slice B2 q2 cb2]) (LastShL 4) (fun _ => .slice none 0 0) probe (by kernel_rfl) (by kernel_rfl)
    (fun w => WkT.refl w) (fun _ _ _ h h' => h.trans h') (fun _ _ h => h.less) (WkT.of (Wk.refl g _).drew) ⟨40, by omega, R3.out.next (Below.refl _ _).drew⟩ (fun _ _ _ _ h hw => ⟨fun e => (by obtain ⟨L, hL⟩ := h.c e; exact ⟨L, hL.wkT hw lD (fun k hk => goal1_none (by omega))⟩), fun e => WkT.done (h.s e) hw nK goal1_at⟩) (fun _ _ _ _ h => h.sh) (fun i _ => LastShL_zero _ i) ?_
  intro W2 hW2 vs2 hvs2
  obtain ⟨AL, nL, cL, ep⟩ := (hvs2 4 rfl).c rfl
  have cW : ∃ x, extCR (WkT g (goal1 w.heap.size #[.int .i64 n2, .int .i64 o2, .slice A2 q2 ca2, .slice B2 q2 cb2])) W2 x := ⟨W2, extCR_of (WkT.refl W2)⟩
  have KB4 := WkT.blk KB3.out hW2 nB (goal1_none nBK)
  have x0 := KB4.allT (T := goal1 w.heap.size #[.int .i64 n2, .int .i64 o2, .slice A2 q2 ca2, .slice B2 q2 cb2]) nB (goal1_none nBK) 0
  have x1 := KB4.allT (T := goal1 w.heap.size #[.int .i64 n2, .int .i64 o2, .slice A2 q2 ca2, .slice B2 q2 cb2]) nB (goal1_none nBK) 1
  have x2 := KB4.allT (T := goal1 w.heap.size #[.int .i64 n2, .int .i64 o2, .slice A2 q2 ca2, .slice B2 q2 cb2]) nB (goal1_none nBK) 2
  have x3 := KB4.allT (T := goal1 w.heap.size #[.int .i64 n2, .int .i64 o2, .slice A2 q2 ca2, .slice B2 q2 cb2]) nB (goal1_none nBK) 3
  simp at x0 x1 x2 x3
  simp only [List.take_succ_cons, List.take_zero, List.drop_succ_cons, List.drop_zero]
  refine wpV_quietR cW 4 0 _ _ (by decide) (by decide) (fun o ho => plain_noEnter (List.all_eq_true.1 (by rfl) o ho)) ?_
  simp only [List.take_succ_cons, List.take_zero, List.drop_succ_cons, List.drop_zero]
  repeat (go_big_quiet_step (fail))
  refine wpQuiet_nil ?_
  refine wpV_make_R rfl rfl (fun x fu hx hI _ => ?_) ?_
  · obtain ⟨jj, hj1, hj2⟩ := hI
    have hsx : w1.heap.size ≤ x.heap.size := by
      obtain ⟨ux, rfl⟩ := hx
      exact Nat.le_trans lVV (hW2.trans (extR_rel _ _ ux)).size
    unfold makesAtR
    go_simp
    refine ⟨rfl, (l2Order_any g jj n2 x hj2 (by omega)).mono ?_⟩
    rintro _ x' ⟨z, LL, rfl, hz, hw', hr'⟩
    exact ⟨_, rfl, WkT.of hw', ⟨jj + 40, by omega, hr'⟩, ⟨fun _ => ⟨LL, hz.lower hsx⟩, fun e => absurd e (by decide)⟩⟩
  rw [ep]
  go_simp
  refine wpV_make_R rfl rfl (fun x fu hx hI _ => ?_) ?_
  · obtain ⟨ux, rfl⟩ := hx
    obtain ⟨jj, hj1, hj2⟩ := hI
    rcases WkT.goal K3.out (hW2.trans (extR_rel _ _ ux)) nK goal1_at with hz | hz
    all_goals
      unfold makesAtR
      rw [run_store4 _ _ rfl rfl rfl hz]
      exact ⟨WkT.store hz goal1_at, ⟨jj, by omega, hj2.store hz (noByte4 _ _ _ _ _ _ _ _) nK⟩, ⟨fun e => absurd e (by decide), fun _ => store4_blk hz⟩⟩
  go_simp
  refine wpV_nilR ?_
  intro w9 hw9 hI9 hf9
  obtain ⟨LL, hLL⟩ := (hf9 4 (by omega) (by decide)).c rfl
  rw [ep] at hLL
  have HL := Lib.hid hLL
  have K9 := Lib.hid ((hf9 5 (by omega) (by decide)).s rfl)
  have X9 := Lib.hid (X3.out.onT hw9 (fun k hk => goal1_none (by omega)))
  have R9 := Lib.hid hI9.rdr
  have F9 := Lib.hid (F3.out.wkT hw9 lD (fun k hk => goal1_none (by omega)))
  clear hw9 hI9 hvs2 hf9 x0 x1 x2 x3 cW hW2 KB4 ep hLL
  go_wp2_with (fail)
  refine bodyPost_ret (v := .tuple #[.agg #[.int .i64 n2, .int .i64 o2, .slice A2 q2 ca2, .slice B2 q2 cb2], .slice AL nL cL]) ?_ rfl ⟨_, AL, nL, cL, LL, rfl, F9.out.lower (Nat.le_of_lt lK), HL.out.lower (Nat.le_of_lt lK), X9.out.below (Nat.le_of_lt hgw) (Nat.le_refl _)⟩
  exact results_cell_flag (fn := Try.f47) rfl _ _ w.heap.size 25 _ _ _ rfl rfl K9.out Try.underlying25 rfl (by kernel_rfl)

end Go.Proofs.Ytihjnjcfiipcoaa


/- The program's maker of rings, at a renaming. -/
namespace Go.Proofs.Ytihjnjcfiipcoaa
open Go.RowKit
set_option maxRecDepth 100000

theorem rn_size (mv : Value) (w : World) : (method 268 115 mv "loop.example/finiterings/impl.size").run Try.prog w = .ok (182, mv) w := by kernel_rfl
theorem rn_one (mv : Value) (w : World) : (method 268 115 mv "loop.example/finiterings/impl.one").run Try.prog w = .ok (180, mv) w := by kernel_rfl
theorem rn_element (mv : Value) (w : World) : (method 268 115 mv "loop.example/finiterings/impl.element").run Try.prog w = .ok (178, mv) w := by kernel_rfl
theorem rn_number (mv : Value) (w : World) : (method 268 115 mv "loop.example/finiterings/impl.number").run Try.prog w = .ok (179, mv) w := by kernel_rfl
theorem rn_sum (mv : Value) (w : World) : (method 268 115 mv "loop.example/finiterings/impl.sum").run Try.prog w = .ok (183, mv) w := by kernel_rfl
theorem rn_product (mv : Value) (w : World) : (method 268 115 mv "loop.example/finiterings/impl.product").run Try.prog w = .ok (181, mv) w := by kernel_rfl
theorem rn_ahead (mv : Value) (w : World) : (nilAhead 268 115 mv "loop.example/finiterings/impl.number").run Try.prog w = .ok (some false) w := by kernel_rfl

set_option maxHeartbeats 8000000 in
theorem madeRn_any (mv : Value) (m o : Nat) (El : Nat → Value) (SV PV : Nat → Nat → Value) (S P : Nat → Nat → Nat) (oneV : Value) (hm : 1 ≤ m) (hm' : m ≤ 16) (w : World)
    (hM : Making w mv 182 180 178 179 183 181 m o El SV PV S P oneV) :
    Calls Try.prog 84 #[.iface 115 mv] w fun e w' => ∃ v, e = .returned v ∧ NewRing w.heap.size w' v m o (m * m) (tabZ m S (m * m)) (tabZ m P (m * m)) ∧ Below w.heap.size w w' := by
  obtain ⟨i0, hi, hz0, hz1, hz2⟩ := info_parts int_info
  obtain ⟨s1, s2, s3, s4⟩ := sqI hm'
  have S3 := Lib.hid s3
  have MK := Lib.hid hM
  clear s3 hM
  have hmm : m * m ≤ 256 := s4
  have q1 := rn_size mv
  have q2 := rn_one mv
  have q3 := rn_element mv
  have q4 := rn_number mv
  have q5 := rn_sum mv
  have q6 := rn_product mv
  have q7 := rn_ahead mv
  have b0 : Below w.heap.size w (w.alloc (.cells #[.int .i64 0, .int .i64 0, .slice none 0 0, .slice none 0 0] 25)) := (Below.refl _ _).alloc (Nat.le_refl _) _
  have k0 := Blk.new w 25 #[.int .i64 0, .int .i64 0, .slice none 0 0, .slice none 0 0]
  have K0 := Lib.hid k0
  have B0 := Lib.hid b0
  clear k0 b0
  go_enter Try.func84, Try.ntmps84
  go_wp2_with (go_at_call 182; refine (MK.out.size _ B0.out).mono ?_; rintro e1 w1 ⟨rfl, hb1⟩)
  have K1 := Lib.hid (K0.out.below hb1 K0.out.lt)
  have B1 := Lib.hid (B0.out.trans (hb1.mono (by simp)))
  have hs1 := hb1.size
  clear hb1
  have hmz : IntKind.i64.wrap ((m : Int) * m) = (m : Int) * m := IntWalk.i64_in _ (by omega)
  refine wp_region_makers 18 madeMk (madePhi (w.heap.size + 1) m) (madeSh m) (fun i => if i = 17 then .pointer (some ⟨0, 0, none⟩) else .slice (some ⟨0, 0, none⟩) 0 (m * m)) probe (by kernel_rfl) (by kernel_rfl) madePhi_stable (fun i v x _ => madeSh_of i v x)
    (fun i _ => by unfold madeSh; split <;> simp) ?_
  intro W hW vs hvs
  obtain ⟨g1, e1⟩ : ∃ g, vs 11 = .slice (some ⟨g, 0, none⟩) 0 (m * m) := hvs 11 rfl
  obtain ⟨g2, e2⟩ : ∃ g, vs 15 = .slice (some ⟨g, 0, none⟩) 0 (m * m) := hvs 15 rfl
  obtain ⟨bx, e3⟩ : ∃ g, vs 17 = .pointer (some ⟨g, 0, none⟩) := hvs 17 rfl
  have BW := Lib.hid (B1.out.trans (hW.mono B1.out.size))
  have cW : ∃ x, extC W x := ⟨W, extC_of (Below.refl _ _)⟩
  have big : ∀ x, extC W x → w.heap.size + 1 ≤ x.heap.size := fun x ⟨u, hu⟩ => by rw [hu]; exact Nat.le_trans (Nat.le_trans K1.out.lt hW.size) (ext_size W u)
  simp only [List.take_succ_cons, List.take_zero, List.drop_succ_cons, List.drop_zero]
  refine wpV_quiet cW 11 0 _ _ (by decide) (by decide) ?_
  simp only [List.take_succ_cons, List.take_zero, List.drop_succ_cons, List.drop_zero]
  repeat (go_big_quiet_step (first
      | (go_at_call 180; with_reducible refine calls_ext (MK.out.one _ ?_); exact BW.out.trans ((ext_below _ _).mono BW.out.size))
      | (go_at_call 179; with_reducible refine calls_ext (MK.out.oneNum _ ?_); exact BW.out.trans ((ext_below _ _).mono BW.out.size))))
  refine wpQuiet_nil ?_
  refine wpV_make' rfl rfl (fun x hx => makesAt_mono (makes_row _ _ 0 (m * m) _ _ rfl rfl (by rw [← S3.out]; rfl) (Nat.zero_le _) (by omega) x) fun v x' ⟨g, h1, h2, h3⟩ => ⟨g, h1, Nat.le_trans (big x hx) h2, h3⟩) ?_
  rw [e1]
  go_simp
  refine wpV_quiet cW 3 _ _ _ (by decide) (by decide) ?_
  simp only [List.take_succ_cons, List.take_zero, List.drop_succ_cons, List.drop_zero]
  repeat (go_big_quiet_step (fail))
  refine wpQuiet_nil ?_
  refine wpV_make' rfl rfl (fun x hx => makesAt_mono (makes_row _ _ 0 (m * m) _ _ rfl rfl (by rw [← S3.out]; rfl) (Nat.zero_le _) (by omega) x) fun v x' ⟨g, h1, h2, h3⟩ => ⟨g, h1, Nat.le_trans (big x hx) h2, h3⟩) ?_
  rw [e2]
  go_simp
  refine wpV_quiet cW 1 _ _ _ (by decide) (by decide) ?_
  simp only [List.take_succ_cons, List.take_zero, List.drop_succ_cons, List.drop_zero]
  repeat (go_big_quiet_step (fail))
  refine wpQuiet_nil ?_
  refine wpV_make' rfl rfl (fun x hx => makesAt_mono (makes_box rfl x) fun v x' ⟨g, h1, h2, h3⟩ => ⟨g, h1, Nat.le_trans (big x hx) h2, h3⟩) ?_
  rw [e3]
  go_simp
  refine wpV_nil ?_
  intro w2 hb2 hfacts hapart
  have n12 : g1 ≠ g2 := fun e => hapart 11 15 (by omega) (by omega) (by omega) rfl rfl g1 (by rw [e1]; rfl) (by rw [e2, e]; rfl)
  obtain ⟨d1, r1⟩ : w.heap.size + 1 ≤ g1 ∧ Blk w2 g1 3 (madeCells #[.int .i64 0] (m * m)) := by
    obtain ⟨g, h1, h2, h3⟩ := hfacts 11 (by omega) rfl
    rw [e1] at h1
    simp at h1
    subst h1
    exact ⟨h2, h3⟩
  obtain ⟨d2, r2⟩ : w.heap.size + 1 ≤ g2 ∧ Blk w2 g2 3 (madeCells #[.int .i64 0] (m * m)) := by
    obtain ⟨g, h1, h2, h3⟩ := hfacts 15 (by omega) rfl
    rw [e2] at h1
    simp at h1
    subst h1
    exact ⟨h2, h3⟩
  obtain ⟨d3, r3⟩ : w.heap.size + 1 ≤ bx ∧ Blk w2 bx 25 #[.int .i64 0, .int .i64 0, .slice none 0 0, .slice none 0 0] := by
    obtain ⟨g, h1, h2, h3⟩ := hfacts 17 (by omega) rfl
    rw [e3] at h1
    simp at h1
    subst h1
    exact ⟨h2, h3⟩
  clear hfacts hapart hvs e1 e2 e3
  have nb1 : g1 ≠ bx := blk_ne (t := 3) (t' := 25) r1 r3 (by decide)
  have nb2 : g2 ≠ bx := blk_ne (t := 3) (t' := 25) r2 r3 (by decide)
  have c0 := r3.cell 0
  have c1 := r3.cell 1
  have c2 := r3.cell 2
  have c3 := r3.cell 3
  have f0 := r3.frozen 0
  have f1 := r3.frozen 1
  have f2 := r3.frozen 2
  have f3 := r3.frozen 3
  simp at c0 c1 c2 c3
  go_wp2_with (fail)
  obtain ⟨V, hV⟩ : ∃ V, store4 w2 bx (.int .i64 m) (.int .i64 o) (.slice (some ⟨g1, 0, none⟩) 0 (m * m)) (.slice (some ⟨g2, 0, none⟩) 0 (m * m)) = V := ⟨_, rfl⟩
  have hV' := hV
  unfold store4 at hV'
  have gv : Grow (w.heap.size + 1) V bx m o (.slice (some ⟨g1, 0, none⟩) 0 (m * m)) (.slice (some ⟨g2, 0, none⟩) 0 (m * m)) 0 0 [] [] := by
    subst hV
    exact ⟨store4_blk r3, d3, store4_own (own_of_blk r1 d1 (by omega)) (by simpa [Value.ownBlock] using nb1), store4_own (own_of_blk r2 d2 (by omega)) (by simpa [Value.ownBlock] using nb2), by simpa [Value.ownBlock] using nb1, by simpa [Value.ownBlock] using nb2, by
      intro g h1 h2
      simp [Value.ownBlock] at h1 h2
      omega⟩
  have bv : Below w1.heap.size w1 w2 := hb2
  have bV : Below (w.heap.size + 1) w1 V := by subst hV; exact store4_below (bv.mono K1.out.lt) d3
  rw [hV']
  clear hV hV' c0 c1 c2 c3 f0 f1 f2 f3 r1 r2 r3 hb2 bv BW cW big hW
  have GV := Lib.hid gv
  have BV := Lib.hid bV
  clear gv bV
  go_loopw [29] (fun i wr => ∃ (a : Nat) (v2 v3 : Value), a ≤ m ∧ i = .int .i64 a ∧ Grow (w.heap.size + 1) wr bx m o v2 v3 (a * m) (a * m) (tabZ m S (a * m)) (tabZ m P (a * m)) ∧ Below (w.heap.size + 1) V wr) (fun i _ => m - (intOf i).toNat)
  case atStart => exact ⟨0, _, _, Nat.zero_le _, rfl, by simpa [tabZ] using GV.out, Below.refl _ _⟩
  case round =>
    obtain ⟨a, v2, v3, ha, rfl, hg, hb⟩ := hrel
    have GR := Lib.hid hg
    have BR := Lib.hid hb
    clear hg hb
    by_cases hlt : a < m
    · have hBw : Below w.heap.size w wr := B1.out.trans ((BV.out.trans BR.out).mono (by omega))
      go_wp2_with (go_at_call 178; refine (MK.out.element _ hBw a hlt).mono ?_; rintro e3 w3 ⟨rfl, hb3⟩)
      have G3 := Lib.hid (GR.out.keep hb3)
      have B3 := Lib.hid (BR.out.trans (hb3.mono (Nat.le_of_lt (Nat.lt_of_le_of_lt GR.out.hD GR.out.box.lt))))
      clear hb3 hBw
      go_loopw [36] (fun i wr => ∃ (b : Nat) (v2 v3 : Value), b ≤ m ∧ i = .int .i64 b ∧ Grow (w.heap.size + 1) wr bx m o v2 v3 (a * m + b) (a * m + b) (tabZ m S (a * m + b)) (tabZ m P (a * m + b)) ∧ Below (w.heap.size + 1) V wr) (fun i _ => m - (intOf i).toNat)
      case atStart => exact ⟨0, _, _, Nat.zero_le _, rfl, G3.out, B3.out⟩
      case round =>
        obtain ⟨b, v2, v3, hb, rfl, hg, hbl⟩ := hrel
        have GR := Lib.hid hg
        have BR := Lib.hid hbl
        clear hg hbl
        by_cases hlt2 : b < m
        · have hBw : Below w.heap.size w wr := B1.out.trans ((BV.out.trans BR.out).mono (by omega))
          go_wp2_with (go_at_call 178; refine (MK.out.element _ hBw b hlt2).mono ?_; rintro e4 wd ⟨rfl, hb4⟩)
          have gd := GR.out.keep hb4
          have bd : Below w.heap.size w wd := hBw.trans (hb4.mono hBw.size)
          have GD := Lib.hid gd
          have BD := Lib.hid bd
          have BE := Lib.hid (BR.out.trans (hb4.mono (Nat.le_of_lt (Nat.lt_of_le_of_lt GR.out.hD GR.out.box.lt))))
          have hlx : bx < wd.heap.size := gd.box.lt
          have hq0 : w.heap.size ≤ wd.heap.size := bd.size
          have hq : w.heap.size ≤ wd.heap.size := bd.size
          have hqD : w.heap.size + 1 ≤ wd.heap.size := Nat.le_of_lt (Nat.lt_of_le_of_lt gd.hD gd.box.lt)
          clear hb4 hBw gd bd
          have hk0 : a * m + b < m * m := by
            have : (a + 1) * m ≤ m * m := Nat.mul_le_mul_right _ hlt
            rw [Nat.succ_mul] at this
            omega
          have hkk : (a * m + b) + 1 ≤ maxLen := by unfold maxLen; omega
          have hbt : ((a * m + b) + 1) * 8 ≤ 140737488355328 := by omega
          have GWA := Lib.hid GD.out
          have nnA : v2.ownBlock ≠ some bx := GD.out.n2
          go_wp2_with (fail)
          refine wp_region_makers 12 (fun i => i == 11) (appPhi (w.heap.size + 1) (.int .i64 (S a b : Nat))) appSh (fun _ => .slice (some ⟨0, 0, none⟩) 1 1) probe (by kernel_rfl) (by kernel_rfl) appPhi_stable (fun i v x _ => appSh_of i v x) (fun _ _ => ⟨0, rfl⟩) ?_
          intro W1 hW1 vsA hvsA
          obtain ⟨h1A, e1A⟩ : ∃ g, vsA 11 = .slice (some ⟨g, 0, none⟩) 1 1 := hvsA 11 rfl
          have BWA := Lib.hid (BD.out.trans (hW1.mono hq))
          have cWA : ∃ x, extC W1 x := ⟨W1, extC_of (Below.refl _ _)⟩
          have bigA : ∀ x, extC W1 x → w.heap.size + 1 ≤ x.heap.size := fun x ⟨u, hu⟩ => by rw [hu]; exact Nat.le_trans (Nat.le_trans hqD hW1.size) (ext_size W1 u)
          have cA := (GD.out.keep hW1).box.cell 2
          simp at cA
          simp only [List.take_succ_cons, List.take_zero, List.drop_succ_cons, List.drop_zero]
          refine wpV_quiet cWA 11 0 _ _ (by decide) (by decide) ?_
          simp only [List.take_succ_cons, List.take_zero, List.drop_succ_cons, List.drop_zero]
          repeat (go_big_quiet_step (first
              | (go_at_call 183; with_reducible refine calls_ext (MK.out.sum _ ?_ a b hlt hlt2); exact BWA.out.trans ((ext_below _ _).mono BWA.out.size))
              | (go_at_call 179; with_reducible refine calls_ext (MK.out.sumNum _ ?_ a b hlt hlt2); exact BWA.out.trans ((ext_below _ _).mono BWA.out.size))))
          refine wpQuiet_nil ?_
          refine wpV_make' rfl rfl (fun x hx => makesAt_mono (makes_one _ _ rfl rfl x) fun v x' ⟨g, p1, p2, p3⟩ => ⟨g, p1, Nat.le_trans (bigA x hx) p2, p3⟩) ?_
          rw [e1A]
          go_simp
          refine wpV_nil ?_
          intro wm hbA hfactsA _
          obtain ⟨gA, q1A, _, r1A⟩ := hfactsA 11 (by omega) rfl
          have egA : gA = h1A := by rw [e1A] at q1A; simp at q1A; exact q1A.symm
          subst egA
          have gkA := GD.out.keep hbA
          refine wpList_append_lies _ rfl _ _ _ rfl (w.heap.size + 1) 3 i0 _ 1 8 Try.underlying23 hi hz0 hz1 hz2 rfl (by omega) v2 (a * m + b) _ rfl gkA.o2 ⟨gA, 0, none⟩ 1 1 _ rfl rfl (World.news_of_block r1A) (by simp [Value.oneCell']) (by omega) hkk hbt (Nat.le_trans hqD hbA.size) _ rfl ?_
          intro gg cap w7 hownA hgrowA hatA _
          have ffA : w7.frozen? ⟨bx, 2, none⟩ = false := by rw [hgrowA.frozen_far _ gkA.box.lt (Ne.symm nnA)]; exact gkA.box.frozen 2
          have ccA : w7.cell? ⟨bx, 2, none⟩ = some v2 := by rw [hgrowA.cell_far _ gkA.box.lt (Ne.symm nnA)]; exact gkA.box.cell 2
          obtain ⟨gpA, bpA⟩ := gkA.put2 hownA hgrowA hatA
          go_wp2_with (fail)
          have GP0 := Lib.hid gpA
          have BP0 := Lib.hid (BE.out.trans ((hbA.mono hqD).trans bpA))
          clear gpA bpA hownA hgrowA hatA ffA ccA gkA hbA hfactsA q1A r1A cA nnA GWA BWA cWA bigA hW1 hvsA
          obtain ⟨we, hwe⟩ : ∃ we, w7.setCell ⟨bx, 2, none⟩ (.slice (some ⟨gg, 0, none⟩) (a * m + b + 1) cap) = we := ⟨_, rfl⟩
          rw [hwe] at GP0 BP0 ⊢
          clear hwe
          have GP := Lib.hid GP0.out
          have BP := Lib.hid (B1.out.trans ((BV.out.trans BP0.out).mono (Nat.le_succ _)))
          have hq3 : w.heap.size ≤ we.heap.size := BP.out.size
          have hqD3 : w.heap.size + 1 ≤ we.heap.size := Nat.le_of_lt (Nat.lt_of_le_of_lt GP.out.hD GP.out.box.lt)
          have GWB := Lib.hid GP.out
          have nnB : v3.ownBlock ≠ some bx := GP.out.n3
          go_wp2_with (fail)
          refine wp_region_makers 12 (fun i => i == 11) (appPhi (w.heap.size + 1) (.int .i64 (P a b : Nat))) appSh (fun _ => .slice (some ⟨0, 0, none⟩) 1 1) probe (by kernel_rfl) (by kernel_rfl) appPhi_stable (fun i v x _ => appSh_of i v x) (fun _ _ => ⟨0, rfl⟩) ?_
          intro W2 hW2 vsB hvsB
          obtain ⟨h1B, e1B⟩ : ∃ g, vsB 11 = .slice (some ⟨g, 0, none⟩) 1 1 := hvsB 11 rfl
          have BWB := Lib.hid (BP.out.trans (hW2.mono hq3))
          have cWB : ∃ x, extC W2 x := ⟨W2, extC_of (Below.refl _ _)⟩
          have bigB : ∀ x, extC W2 x → w.heap.size + 1 ≤ x.heap.size := fun x ⟨u, hu⟩ => by rw [hu]; exact Nat.le_trans (Nat.le_trans hqD3 hW2.size) (ext_size W2 u)
          have cB := (GP.out.keep hW2).box.cell 3
          simp at cB
          simp only [List.take_succ_cons, List.take_zero, List.drop_succ_cons, List.drop_zero]
          refine wpV_quiet cWB 11 0 _ _ (by decide) (by decide) ?_
          simp only [List.take_succ_cons, List.take_zero, List.drop_succ_cons, List.drop_zero]
          repeat (go_big_quiet_step (first
              | (go_at_call 181; with_reducible refine calls_ext (MK.out.product _ ?_ a b hlt hlt2); exact BWB.out.trans ((ext_below _ _).mono BWB.out.size))
              | (go_at_call 179; with_reducible refine calls_ext (MK.out.prodNum _ ?_ a b hlt hlt2); exact BWB.out.trans ((ext_below _ _).mono BWB.out.size))))
          refine wpQuiet_nil ?_
          refine wpV_make' rfl rfl (fun x hx => makesAt_mono (makes_one _ _ rfl rfl x) fun v x' ⟨g, p1, p2, p3⟩ => ⟨g, p1, Nat.le_trans (bigB x hx) p2, p3⟩) ?_
          rw [e1B]
          go_simp
          refine wpV_nil ?_
          intro wn hbB hfactsB _
          obtain ⟨gB, q1B, _, r1B⟩ := hfactsB 11 (by omega) rfl
          have egB : gB = h1B := by rw [e1B] at q1B; simp at q1B; exact q1B.symm
          subst egB
          have gkB := GP.out.keep hbB
          refine wpList_append_lies _ rfl _ _ _ rfl (w.heap.size + 1) 3 i0 _ 1 8 Try.underlying23 hi hz0 hz1 hz2 rfl (by omega) v3 (a * m + b) _ rfl gkB.o3 ⟨gB, 0, none⟩ 1 1 _ rfl rfl (World.news_of_block r1B) (by simp [Value.oneCell']) (by omega) hkk hbt (Nat.le_trans hqD3 hbB.size) _ rfl ?_
          intro g9 cap9 w8 hownB hgrowB hatB _
          have ffB : w8.frozen? ⟨bx, 3, none⟩ = false := by rw [hgrowB.frozen_far _ gkB.box.lt (Ne.symm nnB)]; exact gkB.box.frozen 3
          have ccB : w8.cell? ⟨bx, 3, none⟩ = some v3 := by rw [hgrowB.cell_far _ gkB.box.lt (Ne.symm nnB)]; exact gkB.box.cell 3
          obtain ⟨gpB, bpB⟩ := gkB.put3 hownB hgrowB hatB
          go_wp2_with (fail)
          have GQ := Lib.hid gpB
          have BQ := Lib.hid (BP0.out.trans ((hbB.mono hqD3).trans bpB))
          clear gpB bpB hownB hgrowB hatB ffB ccB gkB hbB hfactsB q1B r1B cB nnB GWB BWB cWB bigB hW2 hvsB
          obtain ⟨wf, hwf⟩ : ∃ wf, w8.setCell ⟨bx, 3, none⟩ (.slice (some ⟨g9, 0, none⟩) (a * m + b + 1) cap9) = wf := ⟨_, rfl⟩
          rw [hwf] at GQ BQ ⊢
          clear hwf
          go_wp2
          go_roundw
          case rel => exact ⟨b + 1, _, _, by omega, by go_num, by
            have := GQ.out
            rw [← tabZ_at hlt2, ← tabZ_at hlt2] at this
            exact this, BQ.out⟩
          case measure => simp [intOf]; omega
        · have hbm : b = m := by omega
          subst hbm
          go_wp2
          go_roundw
          case rel => exact ⟨a + 1, v2, v3, by omega, by go_num, by rw [Nat.succ_mul]; exact GR.out, BR.out⟩
          case measure => simp [intOf]; omega
    · have ham : a = m := by omega
      subst ham
      have hpos : 0 < a * a := Nat.mul_pos hm hm
      obtain ⟨h2, cap2, e2, _, _⟩ := GR.out.o2.form hpos
      obtain ⟨h3, cap3, e3, _, _⟩ := GR.out.o3.form hpos
      subst e2 e3
      have ZR := Lib.hid ((K1.out.below (BV.out) (Nat.lt_succ_self _)).below BR.out (Nat.lt_succ_self _))
      have c0 := GR.out.box.cell 0
      have c1 := GR.out.box.cell 1
      have c2 := GR.out.box.cell 2
      have c3 := GR.out.box.cell 3
      have d0 := ZR.out.cell 0
      have d1 := ZR.out.cell 1
      have d2 := ZR.out.cell 2
      have d3 := ZR.out.cell 3
      have f0 := ZR.out.frozen 0
      have f1 := ZR.out.frozen 1
      have f2 := ZR.out.frozen 2
      have f3 := ZR.out.frozen 3
      simp at c0 c1 c2 c3 d0 d1 d2 d3
      go_wp2
      refine bodyPost_ret (v := .agg #[.int .i64 a, .int .i64 o, .slice (some ⟨h2, 0, none⟩) (a * a) cap2, .slice (some ⟨h3, 0, none⟩) (a * a) cap3]) ?_ rfl ⟨_, rfl, ?_, ?_⟩
      · exact results_cell_row Try.results84 _ _ w.heap.size 25 _ (0, 0) _ rfl (store4_blk ZR.out) Try.underlying25 rfl (by kernel_rfl)
      · exact (GR.out.result ZR.out (by decide)).mono (Nat.le_succ _)
      · exact store4_below (B1.out.trans ((BV.out.trans BR.out).mono (Nat.le_succ _))) (Nat.le_refl _)

end Go.Proofs.Ytihjnjcfiipcoaa


/- Renaming: numbers as a permutation; the methods of a renaming. -/
namespace Go.Proofs.Ytihjnjcfiipcoaa
open Go.RowKit
set_option maxRecDepth 100000

/-- Numbers that are told apart and lie in a list no longer than they are the list, in another order. -/
theorem perm_of_sub : ∀ (s l : List Int), s.Nodup → (∀ x ∈ s, x ∈ l) → l.length ≤ s.length → s.Perm l
  | [], l, _, _, h => by
    obtain rfl : l = [] := List.eq_nil_of_length_eq_zero (by simpa using h)
    exact List.Perm.refl _
  | x :: s, l, hn, hs, hl => by
    rw [List.nodup_cons] at hn
    have hx : x ∈ l := hs x (by simp)
    have hp : l.Perm (x :: l.erase x) := List.perm_cons_erase hx
    have hle : (l.erase x).length ≤ s.length := by
      have := hp.length_eq
      simp only [List.length_cons] at this hl
      omega
    have hsub : ∀ y ∈ s, y ∈ l.erase x := fun y hy => by
      have h1 : y ∈ x :: l.erase x := hp.subset (hs y (by simp [hy]))
      rcases List.mem_cons.1 h1 with h2 | h2
      · subst h2; exact absurd hy hn.1
      · exact h2
    exact ((perm_of_sub s _ hn.2 hsub hle).cons x).trans hp.symm

def rngI (m : Nat) : List Int := (List.range m).map fun k : Nat => (k : Int)
theorem rngI_length {m : Nat} : (rngI m).length = m := by simp [rngI]
theorem rngI_mem {m : Nat} {x : Int} : x ∈ rngI m ↔ ∃ k : Nat, k < m ∧ (k : Int) = x := by simp [rngI]
theorem rngI_nodup {m : Nat} : (rngI m).Nodup := by
  unfold rngI
  rw [List.nodup_iff_pairwise_ne, List.pairwise_map]
  refine (List.nodup_iff_pairwise_ne.1 List.nodup_range).imp ?_
  intro a b h e
  exact h (by omega)

/-- The numbers from 0 on, in an order that begins with 0. -/
def NamesOk (m : Nat) (Z : List Int) : Prop := Z.Perm (rngI m) ∧ Z[0]?.getD 0 = 0
theorem names_of_onto {m : Nat} {Z : List Int} (hl : Z.length = m) (h0 : Z[0]?.getD 0 = 0) (h : ∀ a : Nat, a < m → (a : Int) ∈ Z) : NamesOk m Z :=
  ⟨(perm_of_sub (rngI m) Z rngI_nodup (fun x hx => by obtain ⟨k, hk, rfl⟩ := rngI_mem.1 hx; exact h k hk) (by rw [rngI_length, hl]; omega)).symm, h0⟩
theorem names_of_apart {m : Nat} {Z : List Int} (hl : Z.length = m) (h0 : Z[0]?.getD 0 = 0) (hn : Z.Nodup) (h : ∀ x ∈ Z, 0 ≤ x ∧ x < m) : NamesOk m Z :=
  ⟨perm_of_sub Z (rngI m) hn (fun x hx => rngI_mem.2 ⟨x.toNat, by have := h x hx; omega, by have := h x hx; omega⟩) (by rw [rngI_length, hl]; omega), h0⟩
section
variable {m : Nat} {Z : List Int}
theorem NamesOk.length (h : NamesOk m Z) : Z.length = m := by rw [h.1.length_eq, rngI_length]
theorem NamesOk.onto (h : NamesOk m Z) {a : Nat} (ha : a < m) : (a : Int) ∈ Z := h.1.symm.subset (rngI_mem.2 ⟨a, ha, rfl⟩)
theorem NamesOk.nodup (h : NamesOk m Z) : Z.Nodup := h.1.symm.nodup rngI_nodup
theorem NamesOk.inr (h : NamesOk m Z) {x : Int} (hx : x ∈ Z) : 0 ≤ x ∧ x < m := by
  obtain ⟨k, hk, rfl⟩ := rngI_mem.1 (h.1.subset hx)
  omega
/-- The new number of an element. -/
def nu (Z : List Int) (k : Nat) : Nat := (Z[k]?.getD 0).toNat
/-- The element of a number. -/
def ro (Z : List Int) (a : Nat) : Nat := (idx Z a).toNat
theorem get_mem {Z : List Int} {k : Nat} (hk : k < Z.length) : Z[k]?.getD 0 ∈ Z := by
  rw [List.getElem?_eq_getElem hk]; exact List.getElem_mem _
theorem NamesOk.get (h : NamesOk m Z) {k : Nat} (hk : k < m) : Z[k]?.getD 0 = (nu Z k : Int) ∧ nu Z k < m := by
  have := h.inr (get_mem (show k < Z.length by rw [h.length]; exact hk))
  unfold nu
  omega
theorem idx_dataZ {Z : List Int} {v : Int} (h : v ∈ Z) : ∃ k : Nat, idx Z v = k ∧ k < Z.length ∧ Z[k]?.getD 0 = v := by
  have h1 : Z.findIdx (· == v) < Z.length := List.findIdx_lt_length_of_exists ⟨v, h, by simp⟩
  refine ⟨Z.findIdx (· == v), ?_, h1, ?_⟩
  · unfold idx; rw [if_pos h1]
  · rw [List.getElem?_eq_getElem h1]
    have := List.findIdx_getElem (w := h1)
    simpa using this
theorem NamesOk.idx (h : NamesOk m Z) {a : Nat} (ha : a < m) : Go.Proofs.Ytihjnjcfiipcoaa.idx Z a = (ro Z a : Int) ∧ ro Z a < m ∧ nu Z (ro Z a) = a := by
  obtain ⟨k, h1, h2, h3⟩ := idx_dataZ (h.onto ha)
  have : ro Z a = k := by unfold ro; rw [h1]; simp
  rw [this]
  exact ⟨h1, by rw [← h.length]; exact h2, by unfold nu; rw [h3]; simp⟩
theorem NamesOk.inj (h : NamesOk m Z) {j k : Nat} (hj : j < m) (hk : k < m) (e : nu Z j = nu Z k) : j = k := by
  have h1 := (h.get hj).1
  have h2 := (h.get hk).1
  have hn := h.nodup
  have lj : j < Z.length := by rw [h.length]; exact hj
  have lk : k < Z.length := by rw [h.length]; exact hk
  rw [List.getElem?_eq_getElem lj] at h1
  rw [List.getElem?_eq_getElem lk] at h2
  simp only [Option.getD_some] at h1 h2
  exact (List.getElem_inj hn).1 (by rw [h1, h2, e])
theorem NamesOk.back (h : NamesOk m Z) {k : Nat} (hk : k < m) : ro Z (nu Z k) = k := by
  obtain ⟨_, h2, h3⟩ := h.idx (h.get hk).2
  exact h.inj h2 hk h3
end

/-- A renaming as the program holds it. -/
abbrev rnV (n o : Int) (A B F : Option Addr) (la ca lb cb lf cf : Nat) : Array Value := #[.int .i64 n, .int .i64 o, .slice A la ca, .slice B lb cb, .slice F lf cf]
theorem blk5r {w : World} {g : Nat} {t : TypeId} {a b c d e : Value} (h : Blk w g t #[a, b, c, d, e]) : w.cell? ⟨g, 0, none⟩ = some a ∧ w.cell? ⟨g, 1, none⟩ = some b ∧ w.cell? ⟨g, 2, none⟩ = some c ∧ w.cell? ⟨g, 3, none⟩ = some d ∧ w.cell? ⟨g, 4, none⟩ = some e :=
  ⟨h.cell 0, h.cell 1, h.cell 2, h.cell 3, h.cell 4⟩

section
variable (n o : Int) (A B F : Option Addr) (la ca lb cb lf cf : Nat) (w : World)
theorem rnBox : ∃ W, w.alloc (.cells (rnV n o A B F la ca lb cb lf cf) 115) = W ∧ Blk W w.heap.size 115 (rnV n o A B F la ca lb cb lf cf) ∧ Below w.heap.size w W :=
  ⟨_, rfl, Blk.new w _ _, (Below.refl _ _).alloc (Nat.le_refl _) _⟩
theorem rnSize_any : Calls Try.prog 182 #[.agg (rnV n o A B F la ca lb cb lf cf)] w fun e' w' => e' = .returned (.int .i64 n) ∧ Below w.heap.size w w' := by
  obtain ⟨W, hW, k0, b0⟩ := rnBox n o A B F la ca lb cb lf cf w
  obtain ⟨c0, c1, c2, c3, c4⟩ := blk5r k0
  have HW := Lib.hid hW
  have B0 := Lib.hid b0
  clear hW b0 k0
  go_enter Try.func182, Try.ntmps182
  go_wp2_with (fail)
  rw [HW.out]
  go_wp2
  go_ret
  exact ⟨rfl, B0.out⟩
theorem rnOne_any : Calls Try.prog 180 #[.agg (rnV n o A B F la ca lb cb lf cf)] w fun e' w' => e' = .returned (.int .i64 o) ∧ Below w.heap.size w w' := by
  obtain ⟨W, hW, k0, b0⟩ := rnBox n o A B F la ca lb cb lf cf w
  obtain ⟨c0, c1, c2, c3, c4⟩ := blk5r k0
  have HW := Lib.hid hW
  have B0 := Lib.hid b0
  clear hW b0 k0
  go_enter Try.func180, Try.ntmps180
  go_wp2_with (fail)
  rw [HW.out]
  go_wp2
  go_ret
  exact ⟨rfl, B0.out⟩
theorem rnElement_any {Z : List Int} (v : Int) (hF : Ints w w.heap.size F lf Z) (hf : lf ≤ 9223372036854775807) : Calls Try.prog 178 #[.agg (rnV n o A B F la ca lb cb lf cf), .int .i64 v] w fun e' w' => e' = .returned (.int .i64 (idx Z v)) ∧ Below w.heap.size w w' := by
  obtain ⟨W, hW, k0, b0⟩ := rnBox n o A B F la ca lb cb lf cf w
  obtain ⟨c0, c1, c2, c3, c4⟩ := blk5r k0
  have HF := Lib.hid (hF.next b0)
  have HW := Lib.hid hW
  have B0 := Lib.hid b0
  clear hW b0 k0 hF
  go_enter Try.func178, Try.ntmps178
  go_wp2_with (fail)
  rw [HW.out]
  go_wp2_with (go_at_call 141; refine (index_any _ _ _ Z v _ _ HF.out hf).mono ?_; rintro e1 w1 ⟨rfl, rfl⟩)
  refine bodyPost_ret (fn := Try.f178) (a := ⟨_, _⟩) (results_tmp (t := 4) rfl _ _ _) rfl ?_
  exact ⟨rfl, B0.out⟩
theorem rnNumber_any {Z : List Int} (k : Nat) (hk : k < lf) (hF : Ints w w.heap.size F lf Z) : Calls Try.prog 179 #[.agg (rnV n o A B F la ca lb cb lf cf), .int .i64 k] w fun e' w' => e' = .returned (.int .i64 (Z[k]?.getD 0)) ∧ Below w.heap.size w w' := by
  obtain ⟨W, hW, k0, b0⟩ := rnBox n o A B F la ca lb cb lf cf w
  obtain ⟨c0, c1, c2, c3, c4⟩ := blk5r k0
  obtain ⟨b, off, rfl, hbb, hc⟩ := (hF.next b0).at_ hk
  obtain ⟨z, hz⟩ : ∃ z, Z[k]?.getD 0 = z := ⟨_, rfl⟩
  rw [hz] at hc ⊢
  have HW := Lib.hid hW
  have B0 := Lib.hid b0
  clear hW b0 k0 hF hz
  go_enter Try.func179, Try.ntmps179
  go_upto_region 1 with (fail)
  rw [HW.out]
  go_wp2
  go_ret
  exact ⟨rfl, B0.out⟩
end
section
variable (a b : Nat) (m e b1 o1 la ca b2 o2 lb cb : Nat) (F : Option Addr) (lf cf : Nat) (S P : Nat → Nat) (w : World)
theorem rnSum_any (hr : RingAt w m e b1 o1 la ca b2 o2 lb cb S P) (ha : a < m) (hb : b < m) : Calls Try.prog 183 #[.agg (rnV m e (some ⟨b1, o1, none⟩) (some ⟨b2, o2, none⟩) F la ca lb cb lf cf), .int .i64 a, .int .i64 b] w fun e' w' => e' = .returned (.int .i64 (S (a * m + b))) ∧ Below w.heap.size w w' := by
  obtain ⟨W, hW, k0, b0⟩ := rnBox m e (some ⟨b1, o1, none⟩) (some ⟨b2, o2, none⟩) F la ca lb cb lf cf w
  obtain ⟨c0, c1, c2, c3, c4⟩ := blk5r k0
  have HR := Lib.hid (hr.next b0)
  have HW := Lib.hid hW
  have B0 := Lib.hid b0
  clear hW b0 k0 hr
  go_enter Try.func183, Try.ntmps183
  go_wp2_with (fail)
  rw [HW.out]
  go_wp2_with (go_at_call 160; refine (sum_any a b m e b1 o1 la ca b2 o2 lb cb S P _ HR.out ha hb).mono ?_; rintro e1 w1 ⟨rfl, hb1⟩)
  go_ret
  exact ⟨rfl, below_step B0.out hb1⟩
theorem rnProduct_any (hr : RingAt w m e b1 o1 la ca b2 o2 lb cb S P) (ha : a < m) (hb : b < m) : Calls Try.prog 181 #[.agg (rnV m e (some ⟨b1, o1, none⟩) (some ⟨b2, o2, none⟩) F la ca lb cb lf cf), .int .i64 a, .int .i64 b] w fun e' w' => e' = .returned (.int .i64 (P (a * m + b))) ∧ Below w.heap.size w w' := by
  obtain ⟨W, hW, k0, b0⟩ := rnBox m e (some ⟨b1, o1, none⟩) (some ⟨b2, o2, none⟩) F la ca lb cb lf cf w
  obtain ⟨c0, c1, c2, c3, c4⟩ := blk5r k0
  have HR := Lib.hid (hr.next b0)
  have HW := Lib.hid hW
  have B0 := Lib.hid b0
  clear hW b0 k0 hr
  go_enter Try.func181, Try.ntmps181
  go_wp2_with (fail)
  rw [HW.out]
  go_wp2_with (go_at_call 136; refine (product_any a b m e b1 o1 la ca b2 o2 lb cb S P _ HR.out ha hb).mono ?_; rintro e1 w1 ⟨rfl, hb1⟩)
  go_ret
  exact ⟨rfl, below_step B0.out hb1⟩
end

theorem making_rn {m e b1 o1 la ca b2 o2 lb cb : Nat} {F : Option Addr} {lf cf : Nat} {S P : Nat → Nat} {Z : List Int} (w : World) (hr : RingAt w m e b1 o1 la ca b2 o2 lb cb S P) (hF : Ints w w.heap.size F lf Z) (hZ : NamesOk m Z) :
    Making w (.agg (rnV m e (some ⟨b1, o1, none⟩) (some ⟨b2, o2, none⟩) F la ca lb cb lf cf)) 182 180 178 179 183 181
      m (nu Z e) (fun a => .int .i64 (ro Z a : Nat)) (fun a b => .int .i64 (S (ro Z a * m + ro Z b) : Nat)) (fun a b => .int .i64 (P (ro Z a * m + ro Z b) : Nat)) (fun a b => nu Z (S (ro Z a * m + ro Z b))) (fun a b => nu Z (P (ro Z a * m + ro Z b))) (.int .i64 (e : Nat)) := by
  have hl : lf = m := by rw [← hF.1, hZ.length]
  subst hl
  have hm' := hr.hm'
  refine ⟨fun x h => rnSize_any _ _ _ _ _ _ _ _ _ _ _ x, fun x h => rnOne_any _ _ _ _ _ _ _ _ _ _ _ x, fun x h => ?_, fun x h a ha => ?_, fun x h a b ha hb => ?_, fun x h a b ha hb => ?_, fun x h a b ha hb => ?_, fun x h a b ha hb => ?_⟩
  · have := rnNumber_any lf e (some ⟨b1, o1, none⟩) (some ⟨b2, o2, none⟩) F la ca lb cb lf cf x e hr.he (hF.next h)
    rw [(hZ.get hr.he).1] at this
    exact this
  · have := rnElement_any lf e (some ⟨b1, o1, none⟩) (some ⟨b2, o2, none⟩) F la ca lb cb lf cf x (a : Int) (hF.next h) (by omega)
    rw [(hZ.idx ha).1] at this
    exact this
  · exact rnSum_any _ _ _ _ _ _ _ _ _ _ _ _ _ _ _ S P x (hr.next h) (hZ.idx ha).2.1 (hZ.idx hb).2.1
  · exact rnProduct_any _ _ _ _ _ _ _ _ _ _ _ _ _ _ _ S P x (hr.next h) (hZ.idx ha).2.1 (hZ.idx hb).2.1
  · have hs := hr.ts.lt (hZ.idx ha).2.1 (hZ.idx hb).2.1
    have := rnNumber_any lf e (some ⟨b1, o1, none⟩) (some ⟨b2, o2, none⟩) F la ca lb cb lf cf x _ hs (hF.next h)
    rw [(hZ.get hs).1] at this
    exact this
  · have hs := hr.tp.lt (hZ.idx ha).2.1 (hZ.idx hb).2.1
    have := rnNumber_any lf e (some ⟨b1, o1, none⟩) (some ⟨b2, o2, none⟩) F la ca lb cb lf cf x _ hs (hF.next h)
    rw [(hZ.get hs).1] at this
    exact this

end Go.Proofs.Ytihjnjcfiipcoaa


/- When there is a renaming, by the program; RenameRing of the program. -/
namespace Go.Proofs.Ytihjnjcfiipcoaa
open Go.RowKit
set_option maxRecDepth 100000

/-- There is a renaming of a ring by numbers. -/
noncomputable def rnB (n o : Int) (X Y Z : List Int) : Bool := validB n o X Y && @decide (NamesOk n.toNat Z) (Classical.propDecidable _)
section
variable {n o : Int} {X Y Z : List Int}
theorem rnB_v (h : validB n o X Y = false) : rnB n o X Y Z = false := by unfold rnB; rw [h]; rfl
theorem rnB_n (h : ¬ NamesOk n.toNat Z) : rnB n o X Y Z = false := by unfold rnB; rw [@decide_eq_false _ (Classical.propDecidable _) h]; simp
theorem rnB_yes (h1 : validB n o X Y = true) (h2 : NamesOk n.toNat Z) : rnB n o X Y Z = true := by unfold rnB; rw [h1, @decide_eq_true _ (Classical.propDecidable _) h2]; rfl
theorem rnB_data (h : rnB n o X Y Z = true) : validB n o X Y = true ∧ NamesOk n.toNat Z := by
  unfold rnB at h
  rw [Bool.and_eq_true] at h
  exact ⟨h.1, @of_decide_eq_true _ (Classical.propDecidable _) h.2⟩
theorem valid_sizeR (h : validB n o X Y = true) : ∃ m : Nat, n = m ∧ 1 ≤ m ∧ m ≤ 16 := by
  unfold validB at h
  rw [Bool.and_eq_true] at h
  obtain ⟨m, e, h1, h2, h3, h4, _⟩ := fits_data h.1
  exact ⟨m, h1, h3, h4⟩
end

set_option maxHeartbeats 4000000 in
theorem rnValid_any (n o : Int) (A B F : Option Addr) (la ca lb cb lf cf : Nat) (X Y Z : List Int) (w : World) (hX : Ints w w.heap.size A la X) (hY : Ints w w.heap.size B lb Y) (hF : Ints w w.heap.size F lf Z) (hla : la ≤ 9223372036854775807) (hlb : lb ≤ 9223372036854775807) (hlf : lf ≤ 9223372036854775807) (hca : la ≤ ca) (hcb : lb ≤ cb) :
    Calls Try.prog 113 #[.agg (rnV n o A B F la ca lb cb lf cf)] w fun e' w' => e' = .returned (.bool (rnB n o X Y Z)) ∧ Below w.heap.size w w' := by
  have hZ := hF.1
  obtain ⟨W, hW⟩ : ∃ W, w.alloc (.cells (rnV n o A B F la ca lb cb lf cf) 115) = W := ⟨_, rfl⟩
  have k0 : Blk W w.heap.size 115 (rnV n o A B F la ca lb cb lf cf) := by subst hW; exact Blk.new w _ _
  have b0 : Below w.heap.size w W := by subst hW; exact (Below.refl _ _).alloc (Nat.le_refl _) _
  have HX := Lib.hid (hX.next b0)
  have HY := Lib.hid (hY.next b0)
  have HF := Lib.hid (hF.next b0)
  have K0 := Lib.hid k0
  have B0 := Lib.hid b0
  have HW := Lib.hid hW
  have hs0 := k0.lt
  obtain ⟨c0, c1, c2, c3, c4⟩ := blk5r k0
  clear hX hY hF k0 b0 hW
  cases hv : validB n o X Y
  · have hz := Lib.hid (rnB_v (Z := Z) hv)
    have HV := Lib.hid hv
    clear hv
    go_enter Try.func113, Try.ntmps113
    go_upto_region 1 with (fail)
    rw [HW.out]
    go_wp2_with (first
      | (go_at_call 17; (with_reducible refine (valid_any _ _ _ _ _ _ _ _ X Y _ HX.out HY.out hla hlb hca hcb).mono ?_); rintro e1 w1 ⟨rfl, hb1⟩; rw [HV.out]; have B1 := Lib.hid (below_step B0.out hb1); clear hb1))
    go_ret
    exact ⟨ret_bool hz.out.symm, B1.out⟩
  · obtain ⟨m, rfl, hm, hm'⟩ := valid_sizeR hv
    by_cases hl : lf = m
    rotate_left
    · have hz := Lib.hid (rnB_n (n := m) (o := o) (X := X) (Y := Y) (Z := Z) (fun h => hl (by rw [← hZ, h.length, Int.toNat_natCast])))
      have HV := Lib.hid hv
      have tq : ((lf : Int) != (m : Int)) = true := by rw [bne_iff_ne]; omega
      clear hv
      go_enter Try.func113, Try.ntmps113
      go_upto_region 1 with (fail)
      rw [HW.out]
      go_wp2_with (first
        | (go_at_call 17; (with_reducible refine (valid_any _ _ _ _ _ _ _ _ X Y _ HX.out HY.out hla hlb hca hcb).mono ?_); rintro e1 w1 ⟨rfl, hb1⟩; rw [HV.out]; have K1 := Lib.hid (K0.out.next hb1); have B1 := Lib.hid (below_step B0.out hb1); clear hb1; clear c0 c1 c2 c3 c4; obtain ⟨c0, c1, c2, c3, c4⟩ := blk5r K1.out))
      go_ret
      exact ⟨ret_bool hz.out.symm, B1.out⟩
    subst hl
    obtain ⟨z, hz0⟩ : ∃ z, Z[0]?.getD 0 = z := ⟨_, rfl⟩
    obtain ⟨gb, off, rfl, hbb, hc0⟩ := HF.out.at_ (k := 0) (show 0 < lf by omega)
    rw [hz0, Nat.add_zero] at hc0
    by_cases hzz : z = 0
    rotate_left
    · have hz := Lib.hid (rnB_n (n := lf) (o := o) (X := X) (Y := Y) (Z := Z) (fun h => hzz (by rw [← hz0, h.2])))
      have HV := Lib.hid hv
      have tq : ((lf : Int) != (lf : Int)) = false := by simp
      have tz : (z != 0) = true := by rw [bne_iff_ne]; exact hzz
      have HC := Lib.hid hc0
      have hlz : 0 < lf := hm
      clear hv hc0 hz0
      go_enter Try.func113, Try.ntmps113
      go_upto_region 1 with (fail)
      rw [HW.out]
      go_wp2_with (first
        | (go_at_call 17; (with_reducible refine (valid_any _ _ _ _ _ _ _ _ X Y _ HX.out HY.out hla hlb hca hcb).mono ?_); rintro e1 w1 ⟨rfl, hb1⟩; rw [HV.out]; have K1 := Lib.hid (K0.out.next hb1); have B1 := Lib.hid (below_step B0.out hb1); have HC1 := (hb1.cell (p := ⟨gb, off, none⟩) hbb).trans HC.out; clear hb1; clear c0 c1 c2 c3 c4; obtain ⟨c0, c1, c2, c3, c4⟩ := blk5r K1.out))
      go_ret
      exact ⟨ret_bool hz.out.symm, B1.out⟩
    subst hzz
    have HV := Lib.hid hv
    have tq : ((lf : Int) != (lf : Int)) = false := by simp
    have tz : ((0 : Int) != 0) = false := by simp
    have HC := Lib.hid hc0
    have hlz : 0 < lf := hm
    have HZ0 := Lib.hid hz0
    have HZL := Lib.hid hZ
    clear hv hc0 hz0
    go_enter Try.func113, Try.ntmps113
    go_upto_region 1 with (fail)
    rw [HW.out]
    go_wp2_with (first
      | (go_at_call 17; (with_reducible refine (valid_any _ _ _ _ _ _ _ _ X Y _ HX.out HY.out hla hlb hca hcb).mono ?_); rintro e1 w1 ⟨rfl, hb1⟩; rw [HV.out]; have K1 := Lib.hid (K0.out.next hb1); have B1 := Lib.hid (below_step B0.out hb1); have HC1 := (hb1.cell (p := ⟨gb, off, none⟩) hbb).trans HC.out; have HF1 := Lib.hid (HF.out.next hb1); clear hb1; clear c0 c1 c2 c3 c4; obtain ⟨c0, c1, c2, c3, c4⟩ := blk5r K1.out))
    go_loop [27] (fun i => ∃ k : Nat, k ≤ lf ∧ i = .int .i64 k ∧ Hid (∀ j : Nat, j < k → (j : Int) ∈ Z)) (fun i => lf - (intOf i).toNat)
    case atStart => exact ⟨0, Nat.zero_le _, rfl, Lib.hid (fun j hj => absurd hj (by omega))⟩
    case round =>
      obtain ⟨k, hk, rfl, hup⟩ := hrel
      by_cases hlt : k < lf
      · by_cases hmem : (k : Int) ∈ Z
        · have hb : hasB Z (k : Int) = true := decide_eq_true hmem
          have HM := Lib.hid hmem
          clear hmem
          go_wp2_with (go_at_call 130; refine (contains_any _ _ _ Z _ _ _ HF1.out hlf).mono ?_; rintro e2 w2 ⟨rfl, rfl⟩)
          go_round
          case rel => exact ⟨k + 1, by omega, by go_num, Lib.hid fun j hj => by
            rcases Nat.lt_or_eq_of_le (Nat.le_of_lt_succ hj) with h | h
            · exact hup.out j h
            · subst h; exact HM.out⟩
          case measure => simp [intOf]; omega
        · have hb : hasB Z (k : Int) = false := decide_eq_false hmem
          have hz := Lib.hid (rnB_n (n := lf) (o := o) (X := X) (Y := Y) (Z := Z) (fun h => hmem (h.onto (by rw [Int.toNat_natCast]; exact hlt))))
          clear hmem
          go_wp2_with (go_at_call 130; refine (contains_any _ _ _ Z _ _ _ HF1.out hlf).mono ?_; rintro e2 w2 ⟨rfl, rfl⟩)
          go_ret
          exact ⟨ret_bool hz.out.symm, B1.out⟩
      · have hkk : k = lf := by omega
        subst hkk
        have hz := Lib.hid (rnB_yes (o := o) (X := X) (Y := Y) HV.out (names_of_onto (m := ((k : Int)).toNat) (Z := Z) (by rw [Int.toNat_natCast]; exact HZL.out) HZ0.out (fun a ha => hup.out a (by rw [Int.toNat_natCast] at ha; exact ha))))
        go_wp2
        go_ret
        exact ⟨ret_bool hz.out.symm, B1.out⟩

end Go.Proofs.Ytihjnjcfiipcoaa


/- RenameRing of the program. -/
namespace Go.Proofs.Ytihjnjcfiipcoaa
open Go.RowKit
set_option maxRecDepth 100000

theorem tabZ_len {m k : Nat} {f : Nat → Nat → Nat} : (tabZ m f k).length = k := by simp [tabZ]
theorem sqR {m : Nat} (hm' : m ≤ 16) : m * m ≤ 1000 := by
  have h2 : m * m ≤ 16 * 16 := Nat.mul_le_mul hm' hm'
  omega
/-- What a renaming hands back. -/
noncomputable def rnN (n o : Int) (X Y Z : List Int) : Int := if rnB n o X Y Z = true then n else 0
noncomputable def rnO (n o : Int) (X Y Z : List Int) : Int := if rnB n o X Y Z = true then ((nu Z o.toNat : Nat) : Int) else 0
noncomputable def rnT (T : List Int) (n o : Int) (X Y Z : List Int) : List Int := if rnB n o X Y Z = true then tabZ n.toNat (fun a b => nu Z (tabOf T (ro Z a * n.toNat + ro Z b))) (n.toNat * n.toNat) else []

set_option maxHeartbeats 4000000 in
theorem rename_any (n o : Int) (A B F : Option Addr) (la ca lb cb lf cf : Nat) (X Y Z : List Int) (w : World) (hX : Ints w w.heap.size A la X) (hY : Ints w w.heap.size B lb Y) (hF : Ints w w.heap.size F lf Z) (hla : la ≤ 9223372036854775807) (hlb : lb ≤ 9223372036854775807) (hlf : lf ≤ 9223372036854775807) (hca : la ≤ ca) (hcb : lb ≤ cb) :
    Calls Try.prog 48 #[.agg #[.int .i64 n, .int .i64 o, .slice A la ca, .slice B lb cb], .slice F lf cf] w fun e w' => ∃ v, e = .returned (.tuple #[v, .bool (rnB n o X Y Z)]) ∧ RingOutB w.heap.size w' v (rnN n o X Y Z) (rnO n o X Y Z) (rnT X n o X Y Z) (rnT Y n o X Y Z) ∧ Below w.heap.size w w' := by
  obtain ⟨W, hW⟩ : ∃ W, ((w.alloc (.cells #[.int .i64 n, .int .i64 o, .slice A la ca, .slice B lb cb] 25)).alloc (.cells #[.int .i64 0, .int .i64 0, .slice none 0 0, .slice none 0 0] 25)).alloc (.cells (rnV n o A B F la ca lb cb lf cf) 115) = W := ⟨_, rfl⟩
  have kZ : Blk W (w.heap.size + 1) 25 #[.int .i64 0, .int .i64 0, .slice none 0 0, .slice none 0 0] := by
    subst hW
    have := (Blk.new (w.alloc (.cells #[.int .i64 n, .int .i64 o, .slice A la ca, .slice B lb cb] 25)) 25 #[.int .i64 0, .int .i64 0, .slice none 0 0, .slice none 0 0]).alloc (.cells (rnV n o A B F la ca lb cb lf cf) 115)
    rw [World.size_alloc] at this
    exact this
  have kP : Blk W (w.heap.size + 1 + 1) 115 (rnV n o A B F la ca lb cb lf cf) := by
    subst hW
    have := Blk.new ((w.alloc (.cells #[.int .i64 n, .int .i64 o, .slice A la ca, .slice B lb cb] 25)).alloc (.cells #[.int .i64 0, .int .i64 0, .slice none 0 0, .slice none 0 0] 25)) 115 (rnV n o A B F la ca lb cb lf cf)
    rw [World.size_alloc, World.size_alloc] at this
    exact this
  have bW : Below w.heap.size w W := by
    subst hW
    exact (((Below.refl _ _).alloc (Nat.le_refl _) _).alloc (by simp) _).alloc (by simp; omega) _
  have KZ := Lib.hid kZ
  have KP := Lib.hid kP
  have BW := Lib.hid bW
  have lW : w.heap.size + 1 < W.heap.size := kZ.lt
  have IX := Lib.hid (hX.next bW)
  have IY := Lib.hid (hY.next bW)
  have IF := Lib.hid (hF.next bW)
  have HW := Lib.hid hW
  obtain ⟨p0, p1, p2, p3, p4⟩ := blk5r kP
  clear kZ kP bW hW hX hY hF
  cases hp : rnB n o X Y Z
  · have VP := Lib.hid hp
    simp only [rnN, rnO, rnT, hp, Bool.false_eq_true, if_false]
    clear hp
    go_enter Try.func48, Try.ntmps48
    go_upto_region 2 with (fail)
    rw [HW.out]
    go_wp2_with (fail)
    refine (rnValid_any n o A B F la ca lb cb lf cf X Y Z W IX.out IY.out IF.out hla hlb hlf hca hcb).mono ?_
    rintro e1 w1 ⟨rfl, hb1⟩
    rw [VP.out]
    have KZ1 := Lib.hid (KZ.out.below hb1 KZ.out.lt)
    have BW1 := Lib.hid (BW.out.trans (hb1.mono BW.out.size))
    have z01 := KZ1.out.cell 0
    have z11 := KZ1.out.cell 1
    have z21 := KZ1.out.cell 2
    have z31 := KZ1.out.cell 3
    have fz01 := KZ1.out.frozen 0
    have fz11 := KZ1.out.frozen 1
    have fz21 := KZ1.out.frozen 2
    have fz31 := KZ1.out.frozen 3
    simp at z01 z11 z21 z31
    clear hb1
    go_wp2_with (fail)
    refine bodyPost_ret (v := .tuple #[.agg #[.int .i64 0, .int .i64 0, .slice none 0 0, .slice none 0 0], .bool false]) ?_ rfl ⟨_, rfl, RingOutB.zero, store4_below BW1.out (by omega)⟩
    exact results_cell_flag rfl _ _ (w.heap.size + 1) 25 _ _ _ rfl rfl (store4_blk KZ1.out) Try.underlying25 rfl (by kernel_rfl)
  · have VP := Lib.hid hp
    simp only [rnN, rnO, rnT, hp, if_true]
    obtain ⟨v1, hn⟩ := rnB_data hp
    obtain ⟨m, e, b1, o1, b2, o2, rfl, rfl, rfl, rfl, hr, _⟩ := valid_data v1 IX.out IY.out hca hcb
    have hm := hr.hm
    have hm' := hr.hm'
    simp only [Int.toNat_natCast] at hn ⊢
    have HR := Lib.hid hr
    have HN := Lib.hid hn
    clear hr v1 hp hn
    go_enter Try.func48, Try.ntmps48
    go_upto_region 2 with (fail)
    rw [HW.out]
    go_wp2_with (fail)
    refine (rnValid_any m e _ _ F la ca lb cb lf cf X Y Z W IX.out IY.out IF.out hla hlb hlf hca hcb).mono ?_
    rintro e1 w1 ⟨rfl, hb1⟩
    rw [VP.out]
    have KZ1 := Lib.hid (KZ.out.below hb1 KZ.out.lt)
    have KP1 := Lib.hid (KP.out.below hb1 KP.out.lt)
    have BW1 := Lib.hid (BW.out.trans (hb1.mono BW.out.size))
    have z01 := KZ1.out.cell 0
    have z11 := KZ1.out.cell 1
    have z21 := KZ1.out.cell 2
    have z31 := KZ1.out.cell 3
    have fz01 := KZ1.out.frozen 0
    have fz11 := KZ1.out.frozen 1
    have fz21 := KZ1.out.frozen 2
    have fz31 := KZ1.out.frozen 3
    obtain ⟨p01, p11, p21, p31, p41⟩ := blk5r KP1.out
    simp at z01 z11 z21 z31
    have hr1 := Lib.hid (HR.out.next hb1)
    have hf1 := Lib.hid (IF.out.next hb1)
    clear hb1
    go_wp2_with (fail)
    refine (madeRn_any _ m (nu Z e) _ _ _ _ _ _ hm hm' w1 (making_rn w1 hr1.out hf1.out HN.out)).mono ?_
    rintro e2 w2 ⟨v2, rfl, hn2, hb2⟩
    obtain ⟨C1, l1, k1, C2, l2, k2, rfl, q1, q2, q3⟩ := hn2.outB (sqR hm') tabZ_len tabZ_len
    have Q1 := Lib.hid q1
    have Q2 := Lib.hid q2
    have Q3 := Lib.hid q3
    clear hn2 q1 q2 q3
    have KZ2 := Lib.hid (KZ1.out.below hb2 KZ1.out.lt)
    have BW2 := Lib.hid (BW1.out.trans (hb2.mono BW1.out.size))
    have z02 := KZ2.out.cell 0
    have z12 := KZ2.out.cell 1
    have z22 := KZ2.out.cell 2
    have z32 := KZ2.out.cell 3
    have fz02 := KZ2.out.frozen 0
    have fz12 := KZ2.out.frozen 1
    have fz22 := KZ2.out.frozen 2
    have fz32 := KZ2.out.frozen 3
    simp at z02 z12 z22 z32
    clear hb2
    go_wp2_with (fail)
    refine bodyPost_ret (v := .tuple #[.agg #[.int .i64 (m : Int), .int .i64 ((nu Z e : Nat) : Int), .slice C1 l1 k1, .slice C2 l2 k2], .bool true]) ?_ rfl ⟨_, rfl, ?_, store4_below BW2.out (by omega)⟩
    · exact results_cell_flag rfl _ _ (w.heap.size + 1) 25 _ _ _ rfl rfl (store4_blk KZ2.out) Try.underlying25 rfl (by kernel_rfl)
    · exact RingOutB.lower (store4_outB ⟨C1, l1, k1, C2, l2, k2, rfl, Q1.out, Q2.out, Q3.out⟩ (show w.heap.size + 1 < w1.heap.size from KZ1.out.lt)) BW1.out.size

end Go.Proofs.Ytihjnjcfiipcoaa


/- The numbers of a renaming, as the reading side tests them. -/
namespace Go.Proofs.Ytihjnjcfiipcoaa
open Go.RowKit
set_option maxRecDepth 100000

/-- The numbers that were met. -/
def seA (l : List Int) : Array Value := (Array.range 16).map fun i : Nat => .bool (decide ((i : Int) ∈ l))
theorem seA_size {l : List Int} : (seA l).size = 16 := by simp [seA]
theorem seA_get {l : List Int} {i : Nat} (h : i < 16) : (seA l)[i]? = some (.bool (decide ((i : Int) ∈ l))) := by
  unfold seA
  rw [Array.getElem?_map, Array.getElem?_range, if_pos h]; rfl
theorem seA_set {l : List Int} {k : Nat} : (seA l).setIfInBounds k (.bool true) = seA (l ++ [(k : Int)]) := by
  apply Array.ext
  · simp [seA]
  · intro i h1 h2
    have h16 : i < 16 := by rw [seA_size] at h2; exact h2
    rw [Array.getElem_setIfInBounds (by rw [seA_size]; exact h16)]
    simp only [seA, Array.getElem_map, Array.getElem_range, List.mem_append, List.mem_singleton]
    split
    · rename_i e
      subst e
      simp
    · rename_i e
      congr 2
      exact propext ⟨fun h => .inl h, fun h => h.elim id (fun h => absurd (by omega) e)⟩
theorem seA_nil : seA [] = #[.bool false, .bool false, .bool false, .bool false, .bool false, .bool false, .bool false, .bool false, .bool false, .bool false, .bool false, .bool false, .bool false, .bool false, .bool false, .bool false] := by
  unfold seA
  rw [show Array.range 16 = #[0, 1, 2, 3, 4, 5, 6, 7, 8, 9, 10, 11, 12, 13, 14, 15] from rfl]
  simp
theorem take_step {Z : List Int} {k : Nat} (hk : k < Z.length) : Z.take (k + 1) = Z.take k ++ [Z[k]?.getD 0] := by
  rw [List.take_add_one, List.getElem?_eq_getElem hk]; rfl
theorem nodup_step {Z : List Int} {k : Nat} (hk : k < Z.length) (h : (Z.take k).Nodup) (hm : Z[k]?.getD 0 ∉ Z.take k) : (Z.take (k + 1)).Nodup := by
  rw [take_step hk, List.nodup_append]
  exact ⟨h, by simp, fun a ha b hb e => hm (by rw [List.mem_singleton] at hb; rw [← hb, ← e]; exact ha)⟩
theorem nodup_break {Z : List Int} {k : Nat} (hk : k < Z.length) (hm : Z[k]?.getD 0 ∈ Z.take k) : ¬ Z.Nodup := fun h => by
  have h2 : (Z.take (k + 1)).Nodup := (List.take_sublist _ _).nodup h
  rw [take_step hk, List.nodup_append] at h2
  exact h2.2.2 _ hm _ (List.mem_singleton.2 rfl) rfl
theorem allB_mem {n : Int} {Z : List Int} : allB n Z = true ↔ ∀ x ∈ Z, 0 ≤ x ∧ x < n := by
  unfold allB
  rw [decide_eq_true_iff]
  constructor
  · intro h x hx
    obtain ⟨k, hk, rfl⟩ := List.getElem_of_mem hx
    have := h k hk
    rw [List.getElem?_eq_getElem hk] at this
    exact of_decide_eq_true this
  · intro h k hk
    exact inB_true (h _ (get_mem hk))
noncomputable def nmB (m : Nat) (Z : List Int) : Bool := @decide (NamesOk m Z) (Classical.propDecidable _)
section
variable {m : Nat} {Z : List Int}
theorem nmB_no (h : ¬ NamesOk m Z) : nmB m Z = false := @decide_eq_false _ (Classical.propDecidable _) h
theorem nmB_yes (h : NamesOk m Z) : nmB m Z = true := @decide_eq_true _ (Classical.propDecidable _) h
end

set_option maxHeartbeats 4000000 in
theorem l2Names_any (m : Nat) (F : Option Addr) (lf cf : Nat) (Z : List Int) (w : World) (hm : 1 ≤ m) (hm' : m ≤ 16) (hF : Ints w w.heap.size F lf Z) (hlf : lf ≤ 9223372036854775807) :
    Calls Try.prog 114 #[.int .i64 m, .slice F lf cf] w fun e' w' => e' = .returned (.bool (nmB m Z)) ∧ Below w.heap.size w w' := by
  have hZ := hF.1
  have HF := Lib.hid hF
  have HH := Lib.hid (show wrap64 ((m : Int) - 1) = hiOf m from rfl)
  clear hF
  by_cases hl : lf = m
  rotate_left
  · have hz := Lib.hid (nmB_no (m := m) (Z := Z) (fun h => hl (by rw [← hZ, h.length])))
    have tq : ((lf : Int) != (m : Int)) = true := by rw [bne_iff_ne]; omega
    go_enter Try.func114, Try.ntmps114
    go_wp2
    go_ret
    exact ⟨ret_bool hz.out.symm, Below.refl _ _⟩
  subst hl
  have tq : ((lf : Int) != (lf : Int)) = false := by simp
  have hhq : hiOf (lf : Int) = (lf : Int) - 1 := wrap_in (by omega) (by omega)
  cases he : elB (hiOf lf) Z
  · have hz := Lib.hid (nmB_no (m := lf) (Z := Z) (fun h => by
      have : elB (hiOf lf) Z = true := by
        rw [hhq, elB_allB]
        exact allB_mem.2 fun x hx => h.inr hx
      rw [he] at this; cases this))
    clear hhq
    go_enter Try.func114, Try.ntmps114
    go_wp2_with (go_at_call 97; (with_reducible refine (l1Elements_any _ _ _ _ _ Z _ _ HH.out HF.out hlf).mono ?_); rintro e3 w3 ⟨rfl, rfl⟩)
    go_ret
    exact ⟨ret_bool hz.out.symm, Below.refl _ _⟩
  have hall : ∀ x ∈ Z, 0 ≤ x ∧ x < (lf : Int) := allB_mem.1 (by rw [← elB_allB, ← hhq]; exact he)
  clear hhq
  obtain ⟨z, hz0⟩ : ∃ z, Z[0]?.getD 0 = z := ⟨_, rfl⟩
  obtain ⟨gb, off, rfl, hbb, hc0⟩ := HF.out.at_ (k := 0) (show 0 < lf by omega)
  rw [hz0, Nat.add_zero] at hc0
  have hlz : 0 < lf := hm
  by_cases hzz : z = 0
  rotate_left
  · have hz := Lib.hid (nmB_no (m := lf) (Z := Z) (fun h => hzz (by rw [← hz0, h.2])))
    have tz : (z != 0) = true := by rw [bne_iff_ne]; exact hzz
    clear hz0 hall
    go_enter Try.func114, Try.ntmps114
    go_wp2_with (go_at_call 97; (with_reducible refine (l1Elements_any _ _ _ _ _ Z _ _ HH.out HF.out hlf).mono ?_); rintro e3 w3 ⟨rfl, rfl⟩)
    go_ret
    exact ⟨ret_bool hz.out.symm, Below.refl _ _⟩
  subst hzz
  have tz : ((0 : Int) != 0) = false := by simp
  have HZ0 := Lib.hid hz0
  have HZL := Lib.hid hZ
  have HA := Lib.hid hall
  clear hz0 hall hZ
  go_enter Try.func114, Try.ntmps114
  go_upto_region 4 with (go_at_call 97; (with_reducible refine (l1Elements_any _ _ _ _ _ Z _ _ HH.out HF.out hlf).mono ?_); rintro e3 w3 ⟨rfl, rfl⟩)
  rw [← seA_nil]
  obtain ⟨W, hW⟩ : ∃ W, w.alloc (.cells (seA []) 140) = W := ⟨_, rfl⟩
  have k0 : Blk W w.heap.size 140 (seA []) := by subst hW; exact Blk.new w _ _
  have b0 : Below w.heap.size w W := by subst hW; exact (Below.refl _ _).alloc (Nat.le_refl _) _
  rw [hW]
  clear hW
  go_wp2_with (fail)
  have KW := Lib.hid k0
  have BW := Lib.hid b0
  have HF0 := Lib.hid HF.out
  clear k0 b0 hc0
  go_loopw [27] (fun i wr => ∃ k : Nat, k ≤ lf ∧ i = .int .i64 k ∧ Blk wr w.heap.size 140 (seA (Z.take k)) ∧ Below w.heap.size w wr ∧ (Z.take k).Nodup) (fun i _ => lf - (intOf i).toNat)
  case atStart => exact ⟨0, Nat.zero_le _, rfl, KW.out, BW.out, List.nodup_nil⟩
  case round =>
    obtain ⟨k, hk, rfl, hkb, hb, hn⟩ := hrel
    by_cases hlt : k < lf
    · obtain ⟨b', off', e', hbb', hc⟩ := (HF0.out.next hb).at_ hlt
      cases e'
      have hkZ : k < Z.length := by rw [HZL.out]; exact hlt
      obtain ⟨hz1, hz2⟩ := HA.out _ (get_mem hkZ)
      have htake := Lib.hid (take_step hkZ)
      obtain ⟨z, hzk⟩ : ∃ z, Z[k]?.getD 0 = z := ⟨_, rfl⟩
      have HZK := Lib.hid hzk
      rw [hzk] at hz1 hz2 hc
      obtain ⟨c, rfl⟩ := Int.eq_ofNat_of_zero_le hz1
      have hc16 : c < 16 := by omega
      have hx0 : (0 : Int) ≤ (c : Int) := by omega
      have hx1 : (c : Int) < 16 := by omega
      have hcs := (hkb.cell c).trans (seA_get hc16)
      have hfs := hkb.frozen c
      have KB := Lib.hid hkb
      have HB := Lib.hid hb
      have HN := Lib.hid hn
      clear hkb hb hn hzk
      by_cases hmem : (c : Int) ∈ Z.take k
      · rw [decide_eq_true hmem] at hcs
        have hz := Lib.hid (nmB_no (m := lf) (Z := Z) (fun h => nodup_break hkZ (by rw [HZK.out]; exact hmem) h.nodup))
        clear hmem
        go_wp2
        go_ret
        exact ⟨ret_bool hz.out.symm, HB.out⟩
      · rw [decide_eq_false hmem] at hcs
        have HM := Lib.hid hmem
        clear hmem
        go_wp2
        go_roundw
        case rel => exact ⟨k + 1, by omega, by go_num, by
          rw [htake.out, HZK.out, ← seA_set]
          exact KB.out.set_ c (.bool true), HB.out.setCell (p := ⟨w.heap.size, c, none⟩) (Nat.le_refl _) _, nodup_step hkZ HN.out (by rw [HZK.out]; exact HM.out)⟩
        case measure => simp [intOf]; omega
    · have hkk : k = lf := by omega
      subst hkk
      have hz := Lib.hid (nmB_yes (names_of_apart HZL.out HZ0.out (by
        have := hn
        rw [List.take_of_length_le (Nat.le_of_eq HZL.out)] at this
        exact this) HA.out))
      have HB := Lib.hid hb
      clear hkb hb hn
      go_wp2
      go_ret
      exact ⟨ret_bool hz.out.symm, HB.out⟩

end Go.Proofs.Ytihjnjcfiipcoaa


/- A renamed ring, as the reading side makes it. -/
namespace Go.Proofs.Ytihjnjcfiipcoaa
open Go.RowKit
set_option maxRecDepth 100000

/-- The names lie in a world. -/
def NmAt (w : World) (gb off m : Nat) (Z : List Int) : Prop := gb < w.heap.size ∧ ∀ k, k < m → w.cell? ⟨gb, off + k, none⟩ = some (.int .i64 (nu Z k : Nat))
theorem NmAt.next {w w' : World} {gb off m : Nat} {Z : List Int} (h : NmAt w gb off m Z) (hb : Below w.heap.size w w') : NmAt w' gb off m Z :=
  ⟨Nat.lt_of_lt_of_le h.1 hb.size, fun k hk => (hb.cell (p := ⟨gb, off + k, none⟩) h.1).trans (h.2 k hk)⟩
theorem nmAt_of {w : World} {F : Option Addr} {m : Nat} {Z : List Int} (hm : 1 ≤ m) (h : Ints w w.heap.size F m Z) (hZ : NamesOk m Z) : ∃ gb off, F = some ⟨gb, off, none⟩ ∧ NmAt w gb off m Z := by
  obtain ⟨b, off, e, hb, hc⟩ := h.2 hm
  refine ⟨b, off, e, hb, fun k hk => ?_⟩
  have hk' : k < Z.length := by rw [hZ.length]; exact hk
  have := hc k _ (List.getElem?_eq_getElem hk')
  have hg := (hZ.get hk).1
  rw [List.getElem?_eq_getElem hk'] at hg
  rw [this]
  simp only [Option.getD_some] at hg
  rw [hg]

/-- Where a place of the old tables lies in the new ones. -/
def atOf (m : Nat) (Z : List Int) (k : Nat) : Nat := nu Z (k / m) * m + nu Z (k % m)
def fromOf (m : Nat) (Z : List Int) (p : Nat) : Nat := ro Z (p / m) * m + ro Z (p % m)
theorem atOf_lt {m : Nat} {Z : List Int} (h : NamesOk m Z) {k : Nat} (hk : k < m * m) : atOf m Z k < m * m := by
  obtain ⟨h1, h2⟩ := parts2 hk
  exact idx_lt (h.get h1).2 (h.get h2).2
theorem fromOf_lt {m : Nat} {Z : List Int} (h : NamesOk m Z) {p : Nat} (hp : p < m * m) : fromOf m Z p < m * m := by
  obtain ⟨h1, h2⟩ := parts2 hp
  exact idx_lt (h.idx h1).2.1 (h.idx h2).2.1
theorem fromOf_iff {m : Nat} {Z : List Int} (h : NamesOk m Z) {p k : Nat} (hp : p < m * m) (hk : k < m * m) : fromOf m Z p = k ↔ p = atOf m Z k := by
  obtain ⟨p1, p2⟩ := parts2 hp
  obtain ⟨k1, k2⟩ := parts2 hk
  constructor
  · rintro rfl
    unfold atOf fromOf
    obtain ⟨e1, e2⟩ := idx_parts (a := ro Z (p / m)) (h.idx p2).2.1
    rw [e1, e2, (h.idx p1).2.2, (h.idx p2).2.2, Nat.mul_comm, Nat.div_add_mod]
  · rintro rfl
    unfold atOf fromOf
    obtain ⟨e1, e2⟩ := idx_parts (a := nu Z (k / m)) (h.get k2).2
    rw [e1, e2, h.back k1, h.back k2, Nat.mul_comm, Nat.div_add_mod]
/-- A new table, of which so many places have been written. -/
def rnA (m : Nat) (Z : List Int) (S : Nat → Nat) (k : Nat) : Array Value := (Array.range (m * m)).map fun p => .int .i64 (if fromOf m Z p < k then ((nu Z (S (fromOf m Z p)) : Nat) : Int) else 0)
theorem rnA_size {m : Nat} {Z : List Int} {S : Nat → Nat} {k : Nat} : (rnA m Z S k).size = m * m := by simp [rnA]
theorem rnA_zero {m : Nat} {Z : List Int} {S : Nat → Nat} : madeCells #[.int .i64 0] (m * m) = rnA m Z S 0 := by
  apply Array.ext
  · simp [madeCells, rnA]
  · intro i h1 h2
    simp [madeCells, rnA, Nat.mod_one]
theorem rnA_set {m : Nat} {Z : List Int} {S : Nat → Nat} {k : Nat} (h : NamesOk m Z) (hk : k < m * m) : (rnA m Z S k).setIfInBounds (atOf m Z k) (.int .i64 (nu Z (S k) : Nat)) = rnA m Z S (k + 1) := by
  apply Array.ext
  · simp [rnA]
  · intro i h1 h2
    have hi : i < m * m := by rw [rnA_size] at h2; exact h2
    rw [Array.getElem_setIfInBounds (by rw [rnA_size]; exact hi)]
    simp only [rnA, Array.getElem_map, Array.getElem_range]
    have hf := fromOf_iff h hi hk
    split
    · rename_i e
      have := hf.2 e.symm
      rw [this, if_pos (Nat.lt_succ_self _)]
    · rename_i e
      have hne : fromOf m Z i ≠ k := fun h => e (hf.1 h).symm
      congr 1
      by_cases hlt : fromOf m Z i < k
      · rw [if_pos hlt, if_pos (by omega)]
      · rw [if_neg hlt, if_neg (by omega)]
theorem rnA_list {m : Nat} {Z : List Int} {S : Nat → Nat} (h : NamesOk m Z) : (rnA m Z S (m * m)).toList = (tabZ m (fun a b => nu Z (S (ro Z a * m + ro Z b))) (m * m)).map (.int .i64) := by
  unfold rnA tabZ
  rw [Array.toList_map, Array.toList_range, List.map_map]
  apply List.map_congr_left
  intro p hp
  rw [List.mem_range] at hp
  simp only [Function.comp]
  rw [if_pos (fromOf_lt h hp)]
  rfl
theorem rnA_own {w : World} {D g m : Nat} {Z : List Int} {S : Nat → Nat} (h : NamesOk m Z) (hm' : m ≤ 16) (hg : Blk w g 3 (rnA m Z S (m * m))) (hD : D ≤ g) :
    w.ownsRow D 3 1 (.slice (some ⟨g, 0, none⟩) (m * m) (m * m)) (m * m) ((tabZ m (fun a b => nu Z (S (ro Z a * m + ro Z b))) (m * m)).map (.int .i64)) :=
  ⟨by simp [tabZ], .inr ⟨g, m * m, _, rfl, hD, hg, Nat.le_refl _, by have := sqR hm'; unfold maxLen; omega, by rw [rnA_size, Nat.mul_one], by
    rw [← rnA_list h, Nat.mul_one, List.take_of_length_le (by rw [Array.length_toList, rnA_size]; exact Nat.le_refl _)]⟩⟩

theorem rnA_get {m : Nat} {Z : List Int} {S : Nat → Nat} {k p : Nat} (hp : p < m * m) : ∃ v, (rnA m Z S k)[p]? = some v := ⟨_, Array.getElem?_eq_getElem (by rw [rnA_size]; exact hp)⟩
theorem store4_far {w : World} {b g : Nat} {t : TypeId} {cs : Array Value} {v0 v1 v2 v3 : Value} (h : Blk w g t cs) (hne : g ≠ b) : Blk (store4 w b v0 v1 v2 v3) g t cs := (((h.far hne _).far hne _).far hne _).far hne _
theorem mulR {x y m : Nat} (hx : x < m) (hy : y < m) (hm : m ≤ 16) : (x : Int) * m ≤ 256 ∧ 0 ≤ (x : Int) * m ∧ (x : Int) * m + y ≤ 300 ∧ (x : Int) * m + y = ((x * m + y : Nat) : Int) := by
  have h1 : x * m ≤ 16 * 16 := Nat.mul_le_mul (by omega) hm
  have e : (x : Int) * m = ((x * m : Nat) : Int) := by simp
  rw [e]
  omega

def rnPhi (D m : Nat) (i : Nat) (v : Value) (w : World) : Prop :=
  if i = 20 then ∃ g, v = .pointer (some ⟨g, 0, none⟩) ∧ D ≤ g ∧ Blk w g 25 #[.int .i64 0, .int .i64 0, .slice none 0 0, .slice none 0 0]
  else ∃ g, v = .slice (some ⟨g, 0, none⟩) (m * m) (m * m) ∧ D ≤ g ∧ Blk w g 3 (madeCells #[.int .i64 0] (m * m))
theorem rnPhi_stable {D m : Nat} (i : Nat) (v : Value) (w w' : World) (h : rnPhi D m i v w) (hb : Below w.heap.size w w') : rnPhi D m i v w' := by
  unfold rnPhi at *
  split
  · rename_i e
    rw [if_pos e] at h
    obtain ⟨g, h1, h2, h3⟩ := h
    exact ⟨g, h1, h2, h3.below hb h3.lt⟩
  · rename_i e
    rw [if_neg e] at h
    obtain ⟨g, h1, h2, h3⟩ := h
    exact ⟨g, h1, h2, h3.below hb h3.lt⟩
def rnSh (m : Nat) (i : Nat) (v : Value) : Prop := if i = 20 then ∃ g, v = .pointer (some ⟨g, 0, none⟩) else ∃ g, v = .slice (some ⟨g, 0, none⟩) (m * m) (m * m)
theorem rnSh_of {D m : Nat} (i : Nat) (v : Value) (w : World) (h : rnPhi D m i v w) : rnSh m i v := by
  unfold rnPhi at h
  unfold rnSh
  split <;> rename_i e
  · rw [if_pos e] at h
    exact ⟨h.choose, h.choose_spec.1⟩
  · rw [if_neg e] at h
    exact ⟨h.choose, h.choose_spec.1⟩
def rnMk (i : Nat) : Bool := i == 12 || i == 18 || i == 20

set_option maxHeartbeats 8000000 in
theorem l2Renamed_any (m e b1 o1 la ca b2 o2 lb cb : Nat) (S P : Nat → Nat) (F : Option Addr) (lf cf : Nat) (Z : List Int) (w : World) (hr : RingAt w m e b1 o1 la ca b2 o2 lb cb S P) (hF : Ints w w.heap.size F lf Z) (hZ : NamesOk m Z) :
    Calls Try.prog 115 #[.agg #[.int .i64 m, .int .i64 e, .slice (some ⟨b1, o1, none⟩) la ca, .slice (some ⟨b2, o2, none⟩) lb cb], .slice F lf cf] w fun e' w' =>
      ∃ v, e' = .returned v ∧ NewRing w.heap.size w' v m ((nu Z e : Nat) : Int) (m * m) (tabZ m (fun a b => nu Z (S (ro Z a * m + ro Z b))) (m * m)) (tabZ m (fun a b => nu Z (P (ro Z a * m + ro Z b))) (m * m)) ∧ Below w.heap.size w w' := by
  have hl : lf = m := by rw [← hF.1, hZ.length]
  subst hl
  have hm := hr.hm
  have hm' := hr.hm'
  have he := hr.he
  obtain ⟨gb, off, rfl, hN⟩ := nmAt_of hm hF hZ
  obtain ⟨s1, s2, s3, s4⟩ := sqI hm'
  have S3 := Lib.hid s3
  have HR := Lib.hid hr
  have HN := Lib.hid hN
  have HZ := Lib.hid hZ
  obtain ⟨z0, hz0⟩ : ∃ z, nu Z e = z := ⟨_, rfl⟩
  rw [hz0]
  have HZ0 := Lib.hid hz0
  clear s3 hr hF hN hZ hz0
  go_enter Try.func115, Try.ntmps115
  go_upto_region 1 with (fail)
  obtain ⟨W, hW⟩ : ∃ W, (w.alloc (.cells #[.int .i64 lf, .int .i64 e, .slice (some ⟨b1, o1, none⟩) la ca, .slice (some ⟨b2, o2, none⟩) lb cb] 25)).alloc (.cells #[.int .i64 0, .int .i64 0, .slice none 0 0, .slice none 0 0] 25) = W := ⟨_, rfl⟩
  obtain ⟨D, hD⟩ : ∃ D, D = w.heap.size + 1 + 1 := ⟨_, rfl⟩
  have kR : Blk W w.heap.size 25 #[.int .i64 lf, .int .i64 e, .slice (some ⟨b1, o1, none⟩) la ca, .slice (some ⟨b2, o2, none⟩) lb cb] := by
    subst hW; exact (Blk.new w _ _).alloc _
  have kZ : Blk W (w.heap.size + 1) 25 #[.int .i64 0, .int .i64 0, .slice none 0 0, .slice none 0 0] := by
    subst hW
    have := Blk.new (w.alloc (.cells #[.int .i64 lf, .int .i64 e, .slice (some ⟨b1, o1, none⟩) la ca, .slice (some ⟨b2, o2, none⟩) lb cb] 25)) 25 #[.int .i64 0, .int .i64 0, .slice none 0 0, .slice none 0 0]
    rw [World.size_alloc] at this
    exact this
  have bW : Below w.heap.size w W := by
    subst hW
    exact ((Below.refl _ _).alloc (Nat.le_refl _) _).alloc (by simp) _
  have dW : D ≤ W.heap.size := by rw [hD]; exact kZ.lt
  rw [hW]
  clear hW
  have KR := Lib.hid kR
  have KZ := Lib.hid kZ
  have BW := Lib.hid bW
  have HD := Lib.hid hD
  have DW := Lib.hid dW
  clear kR kZ bW hD dW
  refine wp_region_makers 21 rnMk (rnPhi D lf) (rnSh lf) (fun i => if i = 20 then .pointer (some ⟨0, 0, none⟩) else .slice (some ⟨0, 0, none⟩) (lf * lf) (lf * lf)) probe (by kernel_rfl) (by kernel_rfl) rnPhi_stable (fun i v x _ => rnSh_of i v x)
    (fun i _ => by unfold rnSh; split <;> simp) ?_
  intro W1 hW1 vs hvs
  obtain ⟨g1, e1⟩ : ∃ g, vs 12 = .slice (some ⟨g, 0, none⟩) (lf * lf) (lf * lf) := hvs 12 rfl
  obtain ⟨g2, e2⟩ : ∃ g, vs 18 = .slice (some ⟨g, 0, none⟩) (lf * lf) (lf * lf) := hvs 18 rfl
  obtain ⟨bx, e3⟩ : ∃ g, vs 20 = .pointer (some ⟨g, 0, none⟩) := hvs 20 rfl
  have cW : ∃ x, extC W1 x := ⟨W1, extC_of (Below.refl _ _)⟩
  have big : ∀ x, extC W1 x → D ≤ x.heap.size := fun x ⟨u, hu⟩ => by rw [hu]; exact Nat.le_trans (Nat.le_trans DW.out hW1.size) (ext_size W1 u)
  have KR1 := Lib.hid (KR.out.next hW1)
  have c0 := KR1.out.cell 0
  have c1 := KR1.out.cell 1
  simp at c0 c1
  have HN1 := Lib.hid ((HN.out.next BW.out).next hW1)
  have hcz := HN1.out.2 e he
  rw [HZ0.out] at hcz
  simp only [List.take_succ_cons, List.take_zero, List.drop_succ_cons, List.drop_zero]
  refine wpV_quiet cW 12 0 _ _ (by decide) (by decide) ?_
  simp only [List.take_succ_cons, List.take_zero, List.drop_succ_cons, List.drop_zero]
  repeat (go_big_quiet_step (fail))
  refine wpQuiet_nil ?_
  refine wpV_make' rfl rfl (fun x hx => makesAt_mono (makes_row _ _ (lf * lf) (lf * lf) _ _ rfl (by rw [← S3.out]; rfl) (by rw [← S3.out]; rfl) (Nat.le_refl _) (by omega) x) fun v x' ⟨g, h1, h2, h3⟩ => ⟨g, h1, Nat.le_trans (big x hx) h2, h3⟩) ?_
  rw [e1]
  go_simp
  refine wpV_quiet cW 5 _ _ _ (by decide) (by decide) ?_
  simp only [List.take_succ_cons, List.take_zero, List.drop_succ_cons, List.drop_zero]
  repeat (go_big_quiet_step (fail))
  refine wpQuiet_nil ?_
  refine wpV_make' rfl rfl (fun x hx => makesAt_mono (makes_row _ _ (lf * lf) (lf * lf) _ _ rfl (by rw [← S3.out]; rfl) (by rw [← S3.out]; rfl) (Nat.le_refl _) (by omega) x) fun v x' ⟨g, h1, h2, h3⟩ => ⟨g, h1, Nat.le_trans (big x hx) h2, h3⟩) ?_
  rw [e2]
  go_simp
  refine wpV_quiet cW 1 _ _ _ (by decide) (by decide) ?_
  simp only [List.take_succ_cons, List.take_zero, List.drop_succ_cons, List.drop_zero]
  repeat (go_big_quiet_step (fail))
  refine wpQuiet_nil ?_
  refine wpV_make' rfl rfl (fun x hx => makesAt_mono (makes_box rfl x) fun v x' ⟨g, h1, h2, h3⟩ => ⟨g, h1, Nat.le_trans (big x hx) h2, h3⟩) ?_
  rw [e3]
  go_simp
  refine wpV_nil ?_
  intro w2 hb2 hfacts hapart
  have n12 : g1 ≠ g2 := fun e => hapart 12 18 (by omega) (by omega) (by omega) rfl rfl g1 (by rw [e1]; rfl) (by rw [e2, e]; rfl)
  obtain ⟨d1, r1⟩ : D ≤ g1 ∧ Blk w2 g1 3 (madeCells #[.int .i64 0] (lf * lf)) := by
    obtain ⟨g, h1, h2, h3⟩ := hfacts 12 (by omega) rfl
    rw [e1] at h1
    simp at h1
    subst h1
    exact ⟨h2, h3⟩
  obtain ⟨d2, r2⟩ : D ≤ g2 ∧ Blk w2 g2 3 (madeCells #[.int .i64 0] (lf * lf)) := by
    obtain ⟨g, h1, h2, h3⟩ := hfacts 18 (by omega) rfl
    rw [e2] at h1
    simp at h1
    subst h1
    exact ⟨h2, h3⟩
  obtain ⟨d3, r3⟩ : D ≤ bx ∧ Blk w2 bx 25 #[.int .i64 0, .int .i64 0, .slice none 0 0, .slice none 0 0] := by
    obtain ⟨g, h1, h2, h3⟩ := hfacts 20 (by omega) rfl
    rw [e3] at h1
    simp at h1
    subst h1
    exact ⟨h2, h3⟩
  clear hfacts hapart hvs e1 e2 e3 c0 c1
  have nb1 : g1 ≠ bx := blk_ne (t := 3) (t' := 25) r1 r3 (by decide)
  have nb2 : g2 ≠ bx := blk_ne (t := 3) (t' := 25) r2 r3 (by decide)
  rw [rnA_zero (Z := Z) (S := S)] at r1
  rw [rnA_zero (Z := Z) (S := P)] at r2
  have c0 := r3.cell 0
  have c1 := r3.cell 1
  have c2 := r3.cell 2
  have c3 := r3.cell 3
  have f0 := r3.frozen 0
  have f1 := r3.frozen 1
  have f2 := r3.frozen 2
  have f3 := r3.frozen 3
  simp at c0 c1 c2 c3
  go_upto_region 2 with (fail)
  obtain ⟨V, hV⟩ : ∃ V, store4 w2 bx (.int .i64 lf) (.int .i64 z0) (.slice (some ⟨g1, 0, none⟩) (lf * lf) (lf * lf)) (.slice (some ⟨g2, 0, none⟩) (lf * lf) (lf * lf)) = V := ⟨_, rfl⟩
  have hV' := hV
  unfold store4 at hV'
  have K1V := Lib.hid (show Blk V g1 3 (rnA lf Z S 0) by rw [← hV]; exact store4_far r1 nb1)
  have K2V := Lib.hid (show Blk V g2 3 (rnA lf Z P 0) by rw [← hV]; exact store4_far r2 nb2)
  have KBV := Lib.hid (show Blk V bx 25 #[.int .i64 lf, .int .i64 z0, .slice (some ⟨g1, 0, none⟩) (lf * lf) (lf * lf), .slice (some ⟨g2, 0, none⟩) (lf * lf) (lf * lf)] by rw [← hV]; exact store4_blk r3)
  have BBV := Lib.hid (show Below D W V by rw [← hV]; exact store4_below (hb2.mono DW.out) d3)
  rw [hV']
  have ltR : w.heap.size < D := by have := HD.out; omega
  have ltZ : w.heap.size + 1 < D := by have := HD.out; omega
  have KRV := KR.out.below BBV.out ltR
  clear hV hV' c0 c1 c2 c3 f0 f1 f2 f3 r1 r2 r3 hb2 hW1 big cW hcz
  have c0 := KRV.cell 0
  simp at c0
  go_wp2_with (fail)
  clear c0 KRV
  go_loopw [33] (fun i wr => ∃ k : Nat, k ≤ lf * lf ∧ i = .int .i64 k ∧ Blk wr g1 3 (rnA lf Z S k) ∧ Blk wr g2 3 (rnA lf Z P k) ∧ Blk wr bx 25 #[.int .i64 lf, .int .i64 z0, .slice (some ⟨g1, 0, none⟩) (lf * lf) (lf * lf), .slice (some ⟨g2, 0, none⟩) (lf * lf) (lf * lf)] ∧ Below D W wr) (fun i _ => lf * lf - (intOf i).toNat)
  case atStart => exact ⟨0, Nat.zero_le _, rfl, K1V.out, K2V.out, KBV.out, BBV.out⟩
  case round =>
    obtain ⟨k, hk, rfl, h1, h2, h3, hb⟩ := hrel
    have K1wr := Lib.hid h1
    have K2wr := Lib.hid h2
    have KBwr := Lib.hid h3
    have BBwr := Lib.hid hb
    have DSwr := Lib.hid (show D ≤ wr.heap.size from Nat.le_trans DW.out hb.size)
    have KRwr := Lib.hid (KR.out.below hb ltR)
    have KZwr := Lib.hid (KZ.out.below hb ltZ)
    have BXwr := Lib.hid (BW.out.trans (hb.mono (Nat.le_of_lt ltR)))
    have HRwr := Lib.hid (HR.out.next BXwr.out)
    have HNwr := Lib.hid (HN.out.next BXwr.out)
    clear h1 h2 h3 hb
    by_cases hlt : k < lf * lf
    · have i1 : (k : Int) < (lf : Int) * lf := by rw [S3.out]; omega
      obtain ⟨p1, p2⟩ := parts2 hlt
      obtain ⟨p, ep⟩ : ∃ p : Nat, p = atOf lf Z k := ⟨_, rfl⟩
      have hp : p < lf * lf := by rw [ep]; exact atOf_lt HZ.out hlt
      have EP := Lib.hid ep
      unfold atOf at ep
      obtain ⟨A, eA⟩ : ∃ A : Nat, A = k / lf := ⟨_, rfl⟩
      obtain ⟨B, eB⟩ : ∃ B : Nat, B = k % lf := ⟨_, rfl⟩
      have f1 : (k : Int) / lf = (A : Int) := by rw [eA]; simp
      have f2 : (k : Int) % lf = (B : Int) := by rw [eB]; simp
      rw [← eA] at p1 ep
      rw [← eB] at p2 ep
      obtain ⟨_, la'⟩ := HZ.out.get p1
      obtain ⟨_, lb'⟩ := HZ.out.get p2
      obtain ⟨x1, x2, x3, x4⟩ := mulR la' lb' hm'
      rw [← ep] at x4
      have hNA := Lib.hid (show ∀ x, NmAt x gb off lf Z → x.cell? ⟨gb, off + A, none⟩ = some (.int .i64 (nu Z A : Nat)) from fun x h => h.2 A p1)
      have hNB := Lib.hid (show ∀ x, NmAt x gb off lf Z → x.cell? ⟨gb, off + B, none⟩ = some (.int .i64 (nu Z B : Nat)) from fun x h => h.2 B p2)
      obtain ⟨a', ea'⟩ : ∃ y, nu Z A = y := ⟨_, rfl⟩
      obtain ⟨b', eb'⟩ : ∃ y, nu Z B = y := ⟨_, rfl⟩
      rw [ea'] at la' x1 x2 x3 x4 hNA
      rw [eb'] at lb' x3 x4 hNB
      have n3 : ¬ lf = 0 := by omega
      clear eA eB ea' eb' ep
      go_wp2_with (fail)
      refine wp_region_makers 18 (fun _ => false) (fun _ _ _ => True) (fun _ _ => True) (fun _ => undef) probe (by kernel_rfl) (by kernel_rfl) (fun _ _ _ _ _ _ => trivial) (fun _ _ _ _ _ => trivial) (fun _ _ => trivial) ?_
      intro V1 hV1 vs1 _
      have cV1 : ∃ x, extC V1 x := ⟨V1, extC_of (Below.refl _ _)⟩
      have c0 := (KRwr.out.next hV1).cell 0
      simp at c0
      have cA := hNA.out _ (HNwr.out.next hV1)
      have cB := hNB.out _ (HNwr.out.next hV1)
      simp only [List.take_succ_cons, List.take_zero, List.drop_succ_cons, List.drop_zero]
      refine wpV_quiet cV1 18 0 _ _ (by decide) (by decide) ?_
      simp only [List.take_succ_cons, List.take_zero, List.drop_succ_cons, List.drop_zero]
      repeat (go_big_quiet_step (fail))
      refine wpQuiet_nil ?_
      refine wpV_nil ?_
      intro w3 hb3 _ _
      have K1w3 := Lib.hid (K1wr.out.next hb3)
      have K2w3 := Lib.hid (K2wr.out.next hb3)
      have KBw3 := Lib.hid (KBwr.out.next hb3)
      have BBw3 := Lib.hid (show Below D W w3 from BBwr.out.trans (hb3.mono DSwr.out))
      have DSw3 := Lib.hid (show D ≤ w3.heap.size from Nat.le_trans DW.out BBw3.out.size)
      have KRw3 := Lib.hid (KR.out.below BBw3.out ltR)
      have BXw3 := Lib.hid (BW.out.trans (BBw3.out.mono (Nat.le_of_lt ltR)))
      have HRw3 := Lib.hid (HR.out.next BXw3.out)
      have HNw3 := Lib.hid (HN.out.next BXw3.out)
      clear hV1 c0 cA cB cV1 hb3 x1 x2 x3 f1 f2
      go_wp2_with (fail)
      refine wp_region_makers 12 (fun _ => false) (fun _ _ _ => True) (fun _ _ => True) (fun _ => undef) probe (by kernel_rfl) (by kernel_rfl) (fun _ _ _ _ _ _ => trivial) (fun _ _ _ _ _ => trivial) (fun _ _ => trivial) ?_
      intro V2 hV2 vsa _
      have cVa : ∃ x, extC V2 x := ⟨V2, extC_of (Below.refl _ _)⟩
      have xba := (KBw3.out.next hV2).cell 2
      have xra := (KRw3.out.next hV2).cell 2
      simp at xba xra
      have xta : V2.cell? ⟨b1, o1 + k, none⟩ = some (.int .i64 (S k : Nat)) := ((HRw3.out.next hV2).ts.2 k hlt).1
      have xla : S k < lf := ((HRw3.out.next hV2).ts.2 k hlt).2
      obtain ⟨ska, hska⟩ : ∃ y, S k = y := ⟨_, rfl⟩
      rw [hska] at xta xla
      have xna := (HNw3.out.next hV2).2 ska xla
      obtain ⟨sva, hsva⟩ : ∃ y, nu Z ska = y := ⟨_, rfl⟩
      rw [hsva] at xna
      have SVa := Lib.hid (show nu Z (S k) = sva by rw [hska, hsva])
      have hka : k < la := by rw [HR.out.hla]; exact hlt
      clear hska hsva
      simp only [List.take_succ_cons, List.take_zero, List.drop_succ_cons, List.drop_zero]
      refine wpV_quiet cVa 12 0 _ _ (by decide) (by decide) ?_
      simp only [List.take_succ_cons, List.take_zero, List.drop_succ_cons, List.drop_zero]
      repeat (go_big_quiet_step (fail))
      refine wpQuiet_nil ?_
      refine wpV_nil ?_
      intro w4 hbw4 _ _
      obtain ⟨ova, hova⟩ := rnA_get (Z := Z) (S := S) (k := k) hp
      have ta := K1w3.out.next hbw4
      have tca := (ta.cell p).trans hova
      have tfa := ta.frozen p
      have Da := Lib.hid (show Below D W w4 from BBw3.out.trans (hbw4.mono DSw3.out))
      go_wp2_with (fail)
      obtain ⟨w5, hw5⟩ : ∃ x, w4.setCell ⟨g1, p, none⟩ (.int .i64 (sva : Nat)) = x := ⟨_, rfl⟩
      have K1w5 := Lib.hid (show Blk w5 g1 3 (rnA lf Z S (k + 1)) by
        rw [← hw5, ← rnA_set HZ.out hlt, SVa.out, ← EP.out]
        exact ta.set_ p _)
      have K2w5 := Lib.hid (show Blk w5 g2 3 (rnA lf Z P k) by
        rw [← hw5]; exact (K2w3.out.next hbw4).far n12.symm _)
      have KBw5 := Lib.hid (show Blk w5 bx 25 #[.int .i64 lf, .int .i64 z0, .slice (some ⟨g1, 0, none⟩) (lf * lf) (lf * lf), .slice (some ⟨g2, 0, none⟩) (lf * lf) (lf * lf)] by
        rw [← hw5]; exact (KBw3.out.next hbw4).far nb1.symm _)
      have BBw5 := Lib.hid (show Below D W w5 by rw [← hw5]; exact Da.out.setCell (p := ⟨g1, p, none⟩) d1 _)
      have DSw5 := Lib.hid (show D ≤ w5.heap.size from Nat.le_trans DW.out BBw5.out.size)
      have KRw5 := Lib.hid (KR.out.below BBw5.out ltR)
      have KZw5 := Lib.hid (KZ.out.below BBw5.out ltZ)
      have BXw5 := Lib.hid (BW.out.trans (BBw5.out.mono (Nat.le_of_lt ltR)))
      have HRw5 := Lib.hid (HR.out.next BXw5.out)
      have HNw5 := Lib.hid (HN.out.next BXw5.out)
      rw [hw5]
      clear hw5 ta tca tfa hova xba xra xta xna hV2 hbw4 cVa
      go_wp2_with (fail)
      refine wp_region_makers 12 (fun _ => false) (fun _ _ _ => True) (fun _ _ => True) (fun _ => undef) probe (by kernel_rfl) (by kernel_rfl) (fun _ _ _ _ _ _ => trivial) (fun _ _ _ _ _ => trivial) (fun _ _ => trivial) ?_
      intro V3 hV3 vsb _
      have cVb : ∃ x, extC V3 x := ⟨V3, extC_of (Below.refl _ _)⟩
      have xbb := (KBw5.out.next hV3).cell 3
      have xrb := (KRw5.out.next hV3).cell 3
      simp at xbb xrb
      have xtb : V3.cell? ⟨b2, o2 + k, none⟩ = some (.int .i64 (P k : Nat)) := ((HRw5.out.next hV3).tp.2 k hlt).1
      have xlb : P k < lf := ((HRw5.out.next hV3).tp.2 k hlt).2
      obtain ⟨skb, hskb⟩ : ∃ y, P k = y := ⟨_, rfl⟩
      rw [hskb] at xtb xlb
      have xnb := (HNw5.out.next hV3).2 skb xlb
      obtain ⟨svb, hsvb⟩ : ∃ y, nu Z skb = y := ⟨_, rfl⟩
      rw [hsvb] at xnb
      have SVb := Lib.hid (show nu Z (P k) = svb by rw [hskb, hsvb])
      have hkb : k < lb := by rw [HR.out.hlb]; exact hlt
      clear hskb hsvb
      simp only [List.take_succ_cons, List.take_zero, List.drop_succ_cons, List.drop_zero]
      refine wpV_quiet cVb 12 0 _ _ (by decide) (by decide) ?_
      simp only [List.take_succ_cons, List.take_zero, List.drop_succ_cons, List.drop_zero]
      repeat (go_big_quiet_step (fail))
      refine wpQuiet_nil ?_
      refine wpV_nil ?_
      intro w6 hbw6 _ _
      obtain ⟨ovb, hovb⟩ := rnA_get (Z := Z) (S := P) (k := k) hp
      have tb := K2w5.out.next hbw6
      have tcb := (tb.cell p).trans hovb
      have tfb := tb.frozen p
      have Db := Lib.hid (show Below D W w6 from BBw5.out.trans (hbw6.mono DSw5.out))
      go_wp2_with (fail)
      obtain ⟨w7, hw7⟩ : ∃ x, w6.setCell ⟨g2, p, none⟩ (.int .i64 (svb : Nat)) = x := ⟨_, rfl⟩
      have K2w7 := Lib.hid (show Blk w7 g2 3 (rnA lf Z P (k + 1)) by
        rw [← hw7, ← rnA_set HZ.out hlt, SVb.out, ← EP.out]
        exact tb.set_ p _)
      have K1w7 := Lib.hid (show Blk w7 g1 3 (rnA lf Z S (k + 1)) by
        rw [← hw7]; exact (K1w5.out.next hbw6).far n12 _)
      have KBw7 := Lib.hid (show Blk w7 bx 25 #[.int .i64 lf, .int .i64 z0, .slice (some ⟨g1, 0, none⟩) (lf * lf) (lf * lf), .slice (some ⟨g2, 0, none⟩) (lf * lf) (lf * lf)] by
        rw [← hw7]; exact (KBw5.out.next hbw6).far nb2.symm _)
      have BBw7 := Lib.hid (show Below D W w7 by rw [← hw7]; exact Db.out.setCell (p := ⟨g2, p, none⟩) d2 _)
      have DSw7 := Lib.hid (show D ≤ w7.heap.size from Nat.le_trans DW.out BBw7.out.size)
      have KRw7 := Lib.hid (KR.out.below BBw7.out ltR)
      have KZw7 := Lib.hid (KZ.out.below BBw7.out ltZ)
      have BXw7 := Lib.hid (BW.out.trans (BBw7.out.mono (Nat.le_of_lt ltR)))
      have HRw7 := Lib.hid (HR.out.next BXw7.out)
      have HNw7 := Lib.hid (HN.out.next BXw7.out)
      rw [hw7]
      clear hw7 tb tcb tfb hovb xbb xrb xtb xnb hV3 hbw6 cVb
      go_wp2
      go_roundw
      case rel => exact ⟨k + 1, by omega, by go_num, K1w7.out, K2w7.out, KBw7.out, BBw7.out⟩
      case measure => simp [intOf]; omega
    · have i1 : ¬ (k : Int) < (lf : Int) * lf := by rw [S3.out]; omega
      have hkm : k = lf * lf := by omega
      subst hkm
      have c0 := KBwr.out.cell 0
      have c1' := KBwr.out.cell 1
      have c2' := KBwr.out.cell 2
      have c3' := KBwr.out.cell 3
      have d0 := KZwr.out.cell 0
      have d1' := KZwr.out.cell 1
      have d2' := KZwr.out.cell 2
      have d3' := KZwr.out.cell 3
      have f0 := KZwr.out.frozen 0
      have f1 := KZwr.out.frozen 1
      have f2 := KZwr.out.frozen 2
      have f3 := KZwr.out.frozen 3
      simp at c0 c1' c2' c3' d0 d1' d2' d3'
      go_wp2
      refine bodyPost_ret (v := .agg #[.int .i64 lf, .int .i64 z0, .slice (some ⟨g1, 0, none⟩) (lf * lf) (lf * lf), .slice (some ⟨g2, 0, none⟩) (lf * lf) (lf * lf)]) ?_ rfl ⟨_, rfl, ?_, ?_⟩
      · exact results_cell_row Try.results115 _ _ (w.heap.size + 1) 25 _ (0, 0) _ rfl (store4_blk KZwr.out) Try.underlying25 rfl (by kernel_rfl)
      · exact NewRing.mono ⟨_, _, rfl, store4_own (rnA_own HZ.out hm' K1wr.out d1) (by simp [Value.ownBlock]; omega), store4_own (rnA_own HZ.out hm' K2wr.out d2) (by simp [Value.ownBlock]; omega), by
          intro g h1 h2
          simp [Value.ownBlock] at h1 h2
          omega⟩ (Nat.le_of_lt ltR)
      · exact store4_below BXwr.out (by omega)

end Go.Proofs.Ytihjnjcfiipcoaa


/- RenameRing of the reading side. -/
namespace Go.Proofs.Ytihjnjcfiipcoaa
open Go.RowKit
set_option maxRecDepth 100000

set_option maxHeartbeats 4000000 in
theorem srename_any (n o : Int) (A B F : Option Addr) (la ca lb cb lf cf : Nat) (X Y Z : List Int) (w : World) (hX : Ints w w.heap.size A la X) (hY : Ints w w.heap.size B lb Y) (hF : Ints w w.heap.size F lf Z) (hla : la ≤ 9223372036854775807) (hlb : lb ≤ 9223372036854775807) (hlf : lf ≤ 9223372036854775807) (hca : la ≤ ca) (hcb : lb ≤ cb) :
    Calls Try.prog 49 #[.agg #[.int .i64 n, .int .i64 o, .slice A la ca, .slice B lb cb], .slice F lf cf] w fun e w' => ∃ v, e = .returned (.tuple #[v, .bool (rnB n o X Y Z)]) ∧ RingOutB w.heap.size w' v (rnN n o X Y Z) (rnO n o X Y Z) (rnT X n o X Y Z) (rnT Y n o X Y Z) ∧ Below w.heap.size w w' := by
  obtain ⟨W, hW⟩ : ∃ W, (w.alloc (.cells #[.int .i64 n, .int .i64 o, .slice A la ca, .slice B lb cb] 25)).alloc (.cells #[.int .i64 0, .int .i64 0, .slice none 0 0, .slice none 0 0] 25) = W := ⟨_, rfl⟩
  have kR : Blk W w.heap.size 25 #[.int .i64 n, .int .i64 o, .slice A la ca, .slice B lb cb] := by
    subst hW; exact (Blk.new w _ _).alloc _
  have kZ : Blk W (w.heap.size + 1) 25 #[.int .i64 0, .int .i64 0, .slice none 0 0, .slice none 0 0] := by
    subst hW
    have := Blk.new (w.alloc (.cells #[.int .i64 n, .int .i64 o, .slice A la ca, .slice B lb cb] 25)) 25 #[.int .i64 0, .int .i64 0, .slice none 0 0, .slice none 0 0]
    rw [World.size_alloc] at this
    exact this
  have bW : Below w.heap.size w W := by
    subst hW
    exact ((Below.refl _ _).alloc (Nat.le_refl _) _).alloc (by simp) _
  have KZ := Lib.hid kZ
  have KR := Lib.hid kR
  have BW := Lib.hid bW
  have IX := Lib.hid (hX.next bW)
  have IY := Lib.hid (hY.next bW)
  have IF := Lib.hid (hF.next bW)
  have HW := Lib.hid hW
  obtain ⟨p0, p1, p2, p3⟩ := blk4 kR
  clear kZ kR bW hW hX hY hF
  cases hv : validB n o X Y
  · have hp := rnB_v (Z := Z) hv
    have VP := Lib.hid hp
    have HV := Lib.hid hv
    simp only [rnN, rnO, rnT, hp, Bool.false_eq_true, if_false]
    clear hp hv
    go_enter Try.func49, Try.ntmps49
    go_upto_region 1 with (fail)
    rw [HW.out]
    go_wp2_with (first
      | (go_at_call 66; (with_reducible refine (specValid_any n o A B la ca lb cb X Y _ IX.out IY.out hla hlb hca hcb).mono ?_); rintro e1 w1 ⟨rfl, hb1⟩; rw [HV.out]; have KZ1 := Lib.hid (KZ.out.below hb1 KZ.out.lt); have BW1 := Lib.hid (BW.out.trans (hb1.mono BW.out.size)); have z01 := KZ1.out.cell 0; have z11 := KZ1.out.cell 1; have z21 := KZ1.out.cell 2; have z31 := KZ1.out.cell 3; have fz01 := KZ1.out.frozen 0; have fz11 := KZ1.out.frozen 1; have fz21 := KZ1.out.frozen 2; have fz31 := KZ1.out.frozen 3; simp at z01 z11 z21 z31; clear hb1))
    refine bodyPost_ret (v := .tuple #[.agg #[.int .i64 0, .int .i64 0, .slice none 0 0, .slice none 0 0], .bool false]) ?_ rfl ⟨_, rfl, RingOutB.zero, store4_below BW1.out (by omega)⟩
    exact results_cell_flag rfl _ _ (w.heap.size + 1) 25 _ _ _ rfl rfl (store4_blk KZ1.out) Try.underlying25 rfl (by kernel_rfl)
  · obtain ⟨m, e, b1, o1, b2, o2, rfl, rfl, rfl, rfl, hr, _⟩ := valid_data hv IX.out IY.out hca hcb
    have hm := hr.hm
    have hm' := hr.hm'
    have HR := Lib.hid hr
    have HV := Lib.hid hv
    by_cases hn : NamesOk m Z
    · have hp : rnB m e X Y Z = true := rnB_yes hv (by rw [Int.toNat_natCast]; exact hn)
      simp only [rnN, rnO, rnT, hp, if_true, Int.toNat_natCast]
      have HQ := Lib.hid (nmB_yes hn)
      have HN := Lib.hid hn
      clear hr hv hp hn
      go_enter Try.func49, Try.ntmps49
      go_upto_region 1 with (fail)
      rw [HW.out]
      go_wp2_with (first
        | (go_at_call 66; (with_reducible refine (specValid_any m e _ _ la ca lb cb X Y _ IX.out IY.out hla hlb hca hcb).mono ?_); rintro e1 w1 ⟨rfl, hb1⟩; rw [HV.out]; have KZ1 := Lib.hid (KZ.out.below hb1 KZ.out.lt); have KR1 := Lib.hid (KR.out.next hb1); have BW1 := Lib.hid (BW.out.trans (hb1.mono BW.out.size)); have IF1 := Lib.hid (IF.out.next hb1); have HR1 := Lib.hid (HR.out.next hb1); clear hb1 p0 p1 p2 p3; obtain ⟨p0, p1, p2, p3⟩ := blk4 KR1.out)
        | (go_at_call 114; (with_reducible refine (l2Names_any m F lf cf Z _ hm hm' IF1.out hlf).mono ?_); rintro e2 w2 ⟨rfl, hb2⟩; rw [HQ.out]; have KZ2 := Lib.hid (KZ1.out.below hb2 KZ1.out.lt); have KR2 := Lib.hid (KR1.out.next hb2); have BW2 := Lib.hid (BW1.out.trans (hb2.mono BW1.out.size)); have IF2 := Lib.hid (IF1.out.next hb2); have HR2 := Lib.hid (HR1.out.next hb2); clear hb2 p0 p1 p2 p3; obtain ⟨p0, p1, p2, p3⟩ := blk4 KR2.out)
        | (go_at_call 115; refine (l2Renamed_any m e b1 o1 la ca b2 o2 lb cb (tabOf X) (tabOf Y) F lf cf Z _ HR2.out IF2.out HN.out).mono ?_; rintro e3 w3 ⟨v3, rfl, hn3, hb3⟩; obtain ⟨C1, l1, k1, C2, l2, k2, rfl, q1, q2, q3⟩ := hn3.outB (sqR hm') tabZ_len tabZ_len; have Q1 := Lib.hid q1; have Q2 := Lib.hid q2; have Q3 := Lib.hid q3; clear hn3 q1 q2 q3; have KZ3 := Lib.hid (KZ2.out.below hb3 KZ2.out.lt); have BW3 := Lib.hid (BW2.out.trans (hb3.mono BW2.out.size)); clear hb3 p0 p1 p2 p3; have z01 := KZ3.out.cell 0; have z11 := KZ3.out.cell 1; have z21 := KZ3.out.cell 2; have z31 := KZ3.out.cell 3; have fz01 := KZ3.out.frozen 0; have fz11 := KZ3.out.frozen 1; have fz21 := KZ3.out.frozen 2; have fz31 := KZ3.out.frozen 3; simp at z01 z11 z21 z31))
      refine bodyPost_ret (v := .tuple #[.agg #[.int .i64 (m : Int), .int .i64 ((nu Z e : Nat) : Int), .slice C1 l1 k1, .slice C2 l2 k2], .bool true]) ?_ rfl ⟨_, rfl, ?_, store4_below BW3.out (by omega)⟩
      · exact results_cell_flag rfl _ _ (w.heap.size + 1) 25 _ _ _ rfl rfl (store4_blk KZ3.out) Try.underlying25 rfl (by kernel_rfl)
      · exact RingOutB.lower (store4_outB ⟨C1, l1, k1, C2, l2, k2, rfl, Q1.out, Q2.out, Q3.out⟩ (show w.heap.size + 1 < w2.heap.size from KZ2.out.lt)) BW2.out.size
    · have hp : rnB m e X Y Z = false := rnB_n (by rw [Int.toNat_natCast]; exact hn)
      simp only [rnN, rnO, rnT, hp, Bool.false_eq_true, if_false]
      have HQ := Lib.hid (nmB_no hn)
      clear hr hv hp hn
      go_enter Try.func49, Try.ntmps49
      go_upto_region 1 with (fail)
      rw [HW.out]
      go_wp2_with (first
        | (go_at_call 66; (with_reducible refine (specValid_any m e _ _ la ca lb cb X Y _ IX.out IY.out hla hlb hca hcb).mono ?_); rintro e1 w1 ⟨rfl, hb1⟩; rw [HV.out]; have KZ1 := Lib.hid (KZ.out.below hb1 KZ.out.lt); have KR1 := Lib.hid (KR.out.next hb1); have BW1 := Lib.hid (BW.out.trans (hb1.mono BW.out.size)); have IF1 := Lib.hid (IF.out.next hb1); clear hb1 p0 p1 p2 p3; obtain ⟨p0, p1, p2, p3⟩ := blk4 KR1.out)
        | (go_at_call 114; (with_reducible refine (l2Names_any m F lf cf Z _ hm hm' IF1.out hlf).mono ?_); rintro e2 w2 ⟨rfl, hb2⟩; rw [HQ.out]; have KZ2 := Lib.hid (KZ1.out.below hb2 KZ1.out.lt); have BW2 := Lib.hid (BW1.out.trans (hb2.mono BW1.out.size)); clear hb2 p0 p1 p2 p3; have z01 := KZ2.out.cell 0; have z11 := KZ2.out.cell 1; have z21 := KZ2.out.cell 2; have z31 := KZ2.out.cell 3; have fz01 := KZ2.out.frozen 0; have fz11 := KZ2.out.frozen 1; have fz21 := KZ2.out.frozen 2; have fz31 := KZ2.out.frozen 3; simp at z01 z11 z21 z31))
      refine bodyPost_ret (v := .tuple #[.agg #[.int .i64 0, .int .i64 0, .slice none 0 0, .slice none 0 0], .bool false]) ?_ rfl ⟨_, rfl, RingOutB.zero, store4_below BW2.out (by omega)⟩
      exact results_cell_flag rfl _ _ (w.heap.size + 1) 25 _ _ _ rfl rfl (store4_blk KZ2.out) Try.underlying25 rfl (by kernel_rfl)

end Go.Proofs.Ytihjnjcfiipcoaa


/- Plain facts: rings whose tables are given by functions; the integers by a number. No program in sight. -/
namespace Go.Proofs.Ytihjnjcfiipcoaa
open Go.RowKit

theorem tabOf_tabZ {m a b : Nat} {f : Nat → Nat → Nat} (ha : a < m) (hb : b < m) : tabOf (tabZ m f (m * m)) (a * m + b) = f a b := by
  have hk := idx_lt ha hb
  unfold tabOf tabZ
  rw [List.getElem?_map, List.getElem?_range hk]
  show ((f ((a * m + b) / m) ((a * m + b) % m) : Nat) : Int).toNat = f a b
  rw [(idx_parts hb).1, (idx_parts hb).2]
  simp
theorem tabZ_val {m k : Nat} {f : Nat → Nat → Nat} (hk : k < m * m) : (tabZ m f (m * m))[k]?.getD 0 = ((f (k / m) (k % m) : Nat) : Int) := by
  unfold tabZ
  rw [List.getElem?_map, List.getElem?_range hk]
  rfl
/-- Sums and products as functions make a ring. -/
structure FRing (m e : Nat) (f g : Nat → Nat → Nat) : Prop where
  hm : 1 ≤ m
  he : e < m
  fl : ∀ a b, a < m → b < m → f a b < m
  gl : ∀ a b, a < m → b < m → g a b < m
  f0 : ∀ a, a < m → f a 0 = a
  fc : ∀ a b, a < m → b < m → f a b = f b a
  fa : ∀ a b c, a < m → b < m → c < m → f (f a b) c = f a (f b c)
  fn : ∀ a, a < m → ∃ c, c < m ∧ f a c = 0
  g1 : ∀ a, a < m → g a e = a
  gc : ∀ a b, a < m → b < m → g a b = g b a
  ga : ∀ a b c, a < m → b < m → c < m → g (g a b) c = g a (g b c)
  d : ∀ a b c, a < m → b < m → c < m → g a (f b c) = f (g a b) (g a c)
theorem FRing.valid {m e : Nat} {f g : Nat → Nat → Nat} (F : FRing m e f g) (hm' : m ≤ 16) : validB m e (tabZ m f (m * m)) (tabZ m g (m * m)) = true := by
  have hp : ∀ {k}, k < m * m → k / m < m ∧ k % m < m := fun hk => parts2 hk
  unfold validB
  rw [Bool.and_eq_true]
  constructor
  · refine fitsB_iff.2 ⟨by have := F.hm; omega, by omega, ⟨by omega, by have := F.he; omega⟩, by simp [tabZ], by simp [tabZ], fun k hk => ?_, fun k hk => ?_⟩
    · have hk' : k < m * m := by simpa [tabZ] using hk
      rw [tabZ_val hk']
      have := F.fl _ _ (hp hk').1 (hp hk').2
      omega
    · have hk' : k < m * m := by simpa [tabZ] using hk
      rw [tabZ_val hk']
      have := F.gl _ _ (hp hk').1 (hp hk').2
      omega
  · simp only [Int.toNat_natCast]
    have z : 0 < m := F.hm
    refine laws_iff.2 ⟨fun a ha => ⟨?_, fun b hb => ⟨?_, fun c hc => ?_⟩⟩, fun a ha => ⟨?_, fun b hb => ⟨?_, fun c hc => ?_⟩⟩, fun a ha => ?_, fun a ha b hb c hc => ?_⟩
    · rw [tabOf_tabZ ha z]; exact F.f0 a ha
    · rw [tabOf_tabZ ha hb, tabOf_tabZ hb ha]; exact F.fc a b ha hb
    · unfold Law3
      rw [tabOf_tabZ ha hb, tabOf_tabZ hb hc, tabOf_tabZ (F.fl a b ha hb) hc, tabOf_tabZ ha (F.fl b c hb hc)]
      exact F.fa a b c ha hb hc
    · rw [tabOf_tabZ ha F.he]; exact F.g1 a ha
    · rw [tabOf_tabZ ha hb, tabOf_tabZ hb ha]; exact F.gc a b ha hb
    · unfold Law3
      rw [tabOf_tabZ ha hb, tabOf_tabZ hb hc, tabOf_tabZ (F.gl a b ha hb) hc, tabOf_tabZ ha (F.gl b c hb hc)]
      exact F.ga a b c ha hb hc
    · obtain ⟨c, hc, h⟩ := F.fn a ha
      exact rowL_mem (v := 0).2 ⟨c, hc, by rw [tabOf_tabZ ha hc]; exact h⟩
    · unfold Dist3
      rw [tabOf_tabZ hb hc, tabOf_tabZ ha (F.fl b c hb hc), tabOf_tabZ ha hb, tabOf_tabZ ha hc, tabOf_tabZ (F.gl a b ha hb) (F.gl a c ha hc)]
      exact F.d a b c ha hb hc
/-- The least number of times is told by what it is. -/
theorem ordN_uniq {m a d : Nat} {S : Nat → Nat} (h : IsOrd m S a d) : ordN m S a = d := by
  have h' : IsOrd m S a (ordN m S a) := Classical.epsilon_spec (p := IsOrd m S a) ⟨d, h⟩
  rcases Nat.lt_trichotomy (ordN m S a) d with hl | hl | hl
  · exact absurd h'.2.2.1 (h.2.2.2 _ h'.1 hl)
  · exact hl
  · exact absurd h.2.2.1 (h'.2.2.2 _ h.1 hl)
theorem int_fring {m : Nat} (hm : 1 ≤ m) : FRing m (1 % m) (fun a b => (a + b) % m) (fun a b => a * b % m) where
  hm := hm
  he := Nat.mod_lt _ hm
  fl := fun _ _ _ _ => Nat.mod_lt _ hm
  gl := fun _ _ _ _ => Nat.mod_lt _ hm
  f0 := fun a ha => by simp [Nat.mod_eq_of_lt ha]
  fc := fun a b _ _ => by simp only [Nat.add_comm]
  fa := fun a b c _ _ _ => by simp only [Nat.mod_add_mod, Nat.add_mod_mod, Nat.add_assoc]
  fn := fun a ha => ⟨(m - a) % m, Nat.mod_lt _ hm, by
    simp only [Nat.add_mod_mod]
    rw [show a + (m - a) = m by omega, Nat.mod_self]⟩
  g1 := fun a ha => by simp [Nat.mul_mod_mod, Nat.mod_eq_of_lt ha]
  gc := fun a b _ _ => by simp only [Nat.mul_comm]
  ga := fun a b c _ _ _ => by simp only [Nat.mod_mul_mod, Nat.mul_mod_mod, Nat.mul_assoc]
  d := fun a b c _ _ _ => by simp only [Nat.mul_mod_mod, ← Nat.add_mod, Nat.mul_add]
theorem int_seq {m : Nat} (hm : 1 ≤ m) : ∀ k, seqT m (tabOf (tabZ m (fun a b => (a + b) % m) (m * m))) (1 % m) k = k % m
  | 0 => by simp [seqT]
  | k + 1 => by
    show tabOf _ (seqT m _ (1 % m) k * m + 1 % m) = _
    rw [int_seq hm k, tabOf_tabZ (Nat.mod_lt _ hm) (Nat.mod_lt _ hm), ← Nat.add_mod]
theorem int_char {m : Nat} (hm : 1 ≤ m) : ordN m (tabOf (tabZ m (fun a b => (a + b) % m) (m * m))) (1 % m) = m :=
  ordN_uniq ⟨hm, Nat.le_refl _, by rw [int_seq hm, Nat.mod_self], fun j h1 h2 => by rw [int_seq hm, Nat.mod_eq_of_lt h2]; omega⟩

end Go.Proofs.Ytihjnjcfiipcoaa


/- Plain facts: a ring with other numbers. No program in sight. -/
namespace Go.Proofs.Ytihjnjcfiipcoaa
open Go.RowKit

theorem nu_zero {m : Nat} {Z : List Int} (h : NamesOk m Z) : nu Z 0 = 0 := by unfold nu; rw [h.2]; rfl
theorem NamesOk.nu_lt {m k : Nat} {Z : List Int} (h : NamesOk m Z) (hk : k < m) : nu Z k < m := (h.get hk).2
theorem NamesOk.ro_lt {m k : Nat} {Z : List Int} (h : NamesOk m Z) (hk : k < m) : ro Z k < m := (h.idx hk).2.1
theorem NamesOk.nu_ro {m k : Nat} {Z : List Int} (h : NamesOk m Z) (hk : k < m) : nu Z (ro Z k) = k := (h.idx hk).2.2
theorem NamesOk.ro_zero {m : Nat} {Z : List Int} (h : NamesOk m Z) (hm : 1 ≤ m) : ro Z 0 = 0 := by
  have h1 := h.back (k := 0) hm
  rwa [nu_zero h] at h1
/-- The table of sums or products with other numbers. -/
def rnF (Z : List Int) (m : Nat) (S : Nat → Nat) (a b : Nat) : Nat := nu Z (S (ro Z a * m + ro Z b))
theorem rename_fring {m e : Nat} {S P : Nat → Nat} {Z : List Int} (R : RTab m S P e) (h : NamesOk m Z) : FRing m (nu Z e) (rnF Z m S) (rnF Z m P) where
  hm := R.hm
  he := h.nu_lt R.he
  fl := fun a b ha hb => h.nu_lt (R.sc (h.ro_lt ha) (h.ro_lt hb))
  gl := fun a b ha hb => h.nu_lt (R.pc (h.ro_lt ha) (h.ro_lt hb))
  f0 := fun a ha => by
    unfold rnF
    rw [h.ro_zero R.hm, R.s.zero (h.ro_lt ha), h.nu_ro ha]
  fc := fun a b ha hb => by
    unfold rnF
    rw [R.s.comm (h.ro_lt ha) (h.ro_lt hb)]
  fa := fun a b c ha hb hc => by
    unfold rnF
    rw [h.back (R.sc (h.ro_lt ha) (h.ro_lt hb)), h.back (R.sc (h.ro_lt hb) (h.ro_lt hc)), R.s.assoc (h.ro_lt ha) (h.ro_lt hb) (h.ro_lt hc)]
  fn := fun a ha => by
    obtain ⟨c, hc, _, h0⟩ := R.negEx (h.ro_lt ha)
    refine ⟨nu Z c, h.nu_lt hc, ?_⟩
    unfold rnF
    rw [h.back hc, h0, nu_zero h]
  g1 := fun a ha => by
    unfold rnF
    rw [h.back R.he, R.p.zero (h.ro_lt ha), h.nu_ro ha]
  gc := fun a b ha hb => by
    unfold rnF
    rw [R.p.comm (h.ro_lt ha) (h.ro_lt hb)]
  ga := fun a b c ha hb hc => by
    unfold rnF
    rw [h.back (R.pc (h.ro_lt ha) (h.ro_lt hb)), h.back (R.pc (h.ro_lt hb) (h.ro_lt hc)), R.p.assoc (h.ro_lt ha) (h.ro_lt hb) (h.ro_lt hc)]
  d := fun a b c ha hb hc => by
    unfold rnF
    have h1 := R.d _ (h.ro_lt ha) _ (h.ro_lt hb) _ (h.ro_lt hc)
    unfold Dist3 at h1
    rw [h.back (R.sc (h.ro_lt hb) (h.ro_lt hc)), h.back (R.pc (h.ro_lt ha) (h.ro_lt hb)), h.back (R.pc (h.ro_lt ha) (h.ro_lt hc)), h1]
/-- A sum with new numbers is the new number of the sum. -/
theorem rename_at {m a b : Nat} {S : Nat → Nat} {Z : List Int} (h : NamesOk m Z) (ha : a < m) (hb : b < m) : tabOf (tabZ m (rnF Z m S) (m * m)) (nu Z a * m + nu Z b) = nu Z (S (a * m + b)) := by
  rw [tabOf_tabZ (h.nu_lt ha) (h.nu_lt hb)]
  unfold rnF
  rw [h.back ha, h.back hb]
theorem rename_seq {m e : Nat} {S P : Nat → Nat} {Z : List Int} (R : RTab m S P e) (h : NamesOk m Z) {a : Nat} (ha : a < m) : ∀ k, seqT m (tabOf (tabZ m (rnF Z m S) (m * m))) (nu Z a) k = nu Z (seqT m S a k)
  | 0 => by simp only [seqT]; exact (nu_zero h).symm
  | k + 1 => by
    show tabOf _ (seqT m _ (nu Z a) k * m + nu Z a) = _
    rw [rename_seq R h ha k, rename_at h (R.seq_lt ha k) ha]
    rfl
theorem rename_char {m e : Nat} {S P : Nat → Nat} {Z : List Int} (R : RTab m S P e) (h : NamesOk m Z) {a : Nat} (ha : a < m) : ordN m (tabOf (tabZ m (rnF Z m S) (m * m))) (nu Z a) = ordN m S a := by
  obtain ⟨h1, h2, h3, h4⟩ := R.ord ha
  refine ordN_uniq ⟨h1, h2, by rw [rename_seq R h ha, h3, nu_zero h], fun j j1 j2 => ?_⟩
  rw [rename_seq R h ha]
  intro h0
  exact h4 j j1 j2 (h.inj (R.seq_lt ha j) R.hm (by rw [h0, nu_zero h]))
/-- The numbers back. -/
def backL (Z : List Int) (m : Nat) : List Int := (List.range m).map fun k => ((ro Z k : Nat) : Int)
theorem backL_len {Z : List Int} {m : Nat} : (backL Z m).length = m := by simp [backL]
theorem backL_get {Z : List Int} {m k : Nat} (hk : k < m) : (backL Z m)[k]?.getD 0 = (ro Z k : Int) := by
  unfold backL
  rw [List.getElem?_map, List.getElem?_range hk]
  rfl
theorem backL_nu {Z : List Int} {m k : Nat} (hk : k < m) : nu (backL Z m) k = ro Z k := by unfold nu; rw [backL_get hk]; rfl
theorem backL_ok {Z : List Int} {m : Nat} (hm : 1 ≤ m) (h : NamesOk m Z) : NamesOk m (backL Z m) := by
  refine names_of_onto backL_len (by rw [backL_get hm, h.ro_zero hm]; rfl) fun a ha => ?_
  have h1 := get_mem (Z := backL Z m) (k := nu Z a) (by rw [backL_len]; exact h.nu_lt ha)
  rw [backL_get (h.nu_lt ha), h.back ha] at h1
  exact h1
theorem backL_ro {Z : List Int} {m k : Nat} (hm : 1 ≤ m) (h : NamesOk m Z) (hk : k < m) : ro (backL Z m) k = nu Z k := by
  have h1 := (backL_ok hm h).nu_ro hk
  rw [backL_nu ((backL_ok hm h).ro_lt hk)] at h1
  have h2 := h.nu_ro ((backL_ok hm h).ro_lt hk)
  rw [h1] at h2
  exact h2.symm
/-- A list is told by its numbers. -/
theorem tabZ_back {m : Nat} {X Z : List Int} (hm : 1 ≤ m) (h : NamesOk m Z) (hl : X.length = m * m) (hX : ∀ k, k < m * m → X[k]?.getD 0 = (tabOf X k : Int) ∧ tabOf X k < m) :
    tabZ m (rnF (backL Z m) m (tabOf (tabZ m (rnF Z m (tabOf X)) (m * m)))) (m * m) = X := by
  refine List.ext_getElem (by simp [tabZ, hl]) fun k h1 h2 => ?_
  have hk : k < m * m := by omega
  have e1 := tabZ_val (f := rnF (backL Z m) m (tabOf (tabZ m (rnF Z m (tabOf X)) (m * m)))) hk
  rw [List.getElem?_eq_getElem h1] at e1
  have e2 := (hX k hk).1
  rw [List.getElem?_eq_getElem h2] at e2
  simp only [Option.getD_some] at e1 e2
  rw [e1, e2]
  obtain ⟨p1, p2⟩ := parts2 hk
  have hkk : k / m * m + k % m = k := by rw [Nat.mul_comm]; exact Nat.div_add_mod k m
  unfold rnF
  rw [backL_ro hm h p1, backL_ro hm h p2]
  have e3 := rename_at (S := tabOf X) h p1 p2
  unfold rnF at e3
  rw [e3, hkk, backL_nu (h.nu_lt (hX k hk).2), h.back (hX k hk).2]

end Go.Proofs.Ytihjnjcfiipcoaa
