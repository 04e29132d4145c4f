
/- The contract of fits: the bounds of a ring's tables. -/
import Derived.Test.YtpdonhoeimenjaaA1
import Derived.ChangeKeysEq
namespace Go.Proofs.Ytpdonhoeimenjaa
open Go.RowKit

theorem shape_any (n o : Int) (A B : Option Addr) (la ca lb cb : Nat) (w : World) :
    Calls Try.prog 109 #[.agg #[.int .i64 n, .int .i64 o, .slice A la ca, .slice B lb cb]] w fun e w' => e = .returned (.agg #[.int .i64 n, .int .i64 o, .int .i64 la, .int .i64 lb]) ∧ Below w.heap.size w w' := by
  go_enter Try.func109, Try.ntmps109
  go_wp2
  refine bodyPost_ret (v := .agg #[.int .i64 n, .int .i64 o, .int .i64 la, .int .i64 lb]) (by simp [results, Try.results109, go_sem]) rfl ⟨rfl, ?_⟩
  exact ((Below.refl _ _).alloc (Nat.le_refl _) _).alloc (by simp) _

def eq4 (a b c d a' b' c' d' : Int) : Bool := a == a' && (b == b' && (c == c' && d == d'))
theorem eq4_true {a b c d a' b' c' d' : Int} (h : a = a' ∧ b = b' ∧ c = c' ∧ d = d') : eq4 a b c d a' b' c' d' = true := by obtain ⟨rfl, rfl, rfl, rfl⟩ := h; simp [eq4]
theorem eq4_false {a b c d a' b' c' d' : Int} (h : ¬ (a = a' ∧ b = b' ∧ c = c' ∧ d = d')) : eq4 a b c d a' b' c' d' = false := by
  unfold eq4
  rw [Bool.eq_false_iff]
  intro g
  simp only [Bool.and_eq_true, beq_iff_eq] at g
  exact h g
theorem eq_shape (w : World) (a b c d a' b' c' d' : Int) : (Op.equalIn 10000 83 (.agg #[.int .i64 a, .int .i64 b, .int .i64 c, .int .i64 d]) (.agg #[.int .i64 a', .int .i64 b', .int .i64 c', .int .i64 d'])).run Try.prog w = .ok (eq4 a b c d a' b' c' d') w := by
  obtain ⟨i0, hi, _⟩ := info_parts (P := Try.prog) (show (Try.prog.info? 3).map (fun i => (i.zero, i.size, i.bytes)) = some (some (.int .i64 0), 1, 8) by kernel_rfl)
  have h := run_equalIn_array (P := Try.prog) w 9999 #[.int .i64 a, .int .i64 b, .int .i64 c, .int .i64 d] #[.int .i64 a', .int .i64 b', .int .i64 c', .int .i64 d'] Try.underlying83 hi
  have hc : Try.prog.cellsOf 3 = 1 := by kernel_rfl
  rw [hc] at h
  refine h.trans ?_
  simp [go_sem, Op.eqItems, List.range, List.range.loop, eq4]
  by_cases h1 : a = a' <;> by_cases h2 : b = b' <;> by_cases h3 : c = c' <;> by_cases h4 : d = d' <;> simp [h1, h2, h3, h4]

def fitsB (n o : Int) (S T : List Int) : Bool := decide (1 ≤ n) && (decide (n ≤ 16) && (inB n o && (eq4 n o S.length T.length n o (n * n) (n * n) && (allB n S && allB n T))))

set_option maxHeartbeats 400000 in
theorem fits_low (n o : Int) (A B : Option Addr) (la ca lb cb : Nat) (w : World) (h : n < 1 ∨ 16 < n) :
    Calls Try.prog 75 #[.agg #[.int .i64 n, .int .i64 o, .slice A la ca, .slice B lb cb]] w fun e w' => e = .returned (.bool false) ∧ Below w.heap.size w w' := by
  by_cases h1 : n < 1
  · go_enter Try.func75, Try.ntmps75
    go_wp2
    go_ret
    exact ⟨rfl, (Below.refl _ _).alloc (Nat.le_refl _) _⟩
  · have h2 : 16 < n := by omega
    clear h
    go_enter Try.func75, Try.ntmps75
    go_wp2
    go_ret
    exact ⟨rfl, (Below.refl _ _).alloc (Nat.le_refl _) _⟩
set_option maxHeartbeats 400000 in
theorem fits_one (n o : Int) (A B : Option Addr) (la ca lb cb : Nat) (w : World) (h1 : 1 ≤ n) (h2 : n ≤ 16) (ho : inB n o = false) :
    Calls Try.prog 75 #[.agg #[.int .i64 n, .int .i64 o, .slice A la ca, .slice B lb cb]] w fun e w' => e = .returned (.bool false) ∧ Below w.heap.size w w' := by
  go_enter Try.func75, Try.ntmps75
  go_wp2_with (go_at_call 85; refine (has_any _ _ _ _ _ _ _ _ _ _).mono ?_; rintro e w1 ⟨rfl, hb1⟩)
  go_ret
  exact ⟨rfl, ((Below.refl _ _).alloc (Nat.le_refl _) _).trans (hb1.mono (by simp))⟩

theorem sq_le {m : Nat} (hm' : m ≤ 16) : (m : Int) * m ≤ 256 ∧ 0 ≤ (m : Int) * m := by
  have h2 : m * m ≤ 16 * 16 := Nat.mul_le_mul hm' hm'
  have e1 : (m : Int) * m = (m * m : Nat) := by simp
  rw [e1]; omega

attribute [local go_sem] eq_shape
attribute [local go_sem ↓] Go.wp_at_zero Go.wp_at_succ

set_option maxHeartbeats 1000000 in
theorem fits_len (m : Nat) (o : Int) (A B : Option Addr) (la ca lb cb : Nat) (w : World) (h1 : 1 ≤ m) (h2 : m ≤ 16) (ho : inB m o = true)
    (hl : eq4 m o la lb m o (m * m) (m * m) = false) :
    Calls Try.prog 75 #[.agg #[.int .i64 m, .int .i64 o, .slice A la ca, .slice B lb cb]] w fun e w' => e = .returned (.bool false) ∧ Below w.heap.size w w' := by
  obtain ⟨s1, s2⟩ := sq_le h2
  go_enter Try.func75, Try.ntmps75
  go_wp2_with (go_at_call 85; refine (has_any _ _ _ _ _ _ _ _ _ _).mono ?_; rintro e w1 ⟨rfl, hb1⟩; obtain ⟨c0, c1, c2, c3, hs⟩ := box4_next hb1 (by simp) (box4_new _ _ _ _ _ _).1 (box4_new _ _ _ _ _ _).2.1 (box4_new _ _ _ _ _ _).2.2.1 (box4_new _ _ _ _ _ _).2.2.2.1)
  have HB := Lib.hid hb1
  clear hb1
  refine wp_region_ext (by kernel_rfl) (by kernel_rfl) ?_
  repeat (go_big_quiet_step ((go_at_call 109; refine calls_ext (shape_any _ _ _ _ _ _ _ _ _))))
  refine wpQuiet_nil ?_
  intro w2 hb2
  go_wp2
  go_ret
  exact ⟨rfl, (below_of_box (by simpa using HB.out)).trans (hb2.mono (by simp at hs; omega))⟩

set_option maxHeartbeats 1000000 in
theorem fits_all (m : Nat) (o : Int) (A B : Option Addr) (la ca lb cb : Nat) (S T : List Int) (w : World) (h1 : 1 ≤ m) (h2 : m ≤ 16) (ho : inB m o = true)
    (hl : eq4 m o la lb m o (m * m) (m * m) = true) (hS : Ints w w.heap.size A la S) (hT : Ints w w.heap.size B lb T) (hla : la ≤ 9223372036854775807) (hlb : lb ≤ 9223372036854775807) :
    Calls Try.prog 75 #[.agg #[.int .i64 m, .int .i64 o, .slice A la ca, .slice B lb cb]] w fun e w' => e = .returned (.bool (allB m S && allB m T)) ∧ Below w.heap.size w w' := by
  obtain ⟨s1, s2⟩ := sq_le h2
  have HS := Lib.hid hS
  have HT := Lib.hid hT
  clear hS hT
  go_enter Try.func75, Try.ntmps75
  go_wp2_with (go_at_call 85; refine (has_any _ _ _ _ _ _ _ _ _ _).mono ?_; rintro e w1 ⟨rfl, hb1⟩; obtain ⟨c0, c1, c2, c3, hs⟩ := box4_next hb1 (by simp) (box4_new _ _ _ _ _ _).1 (box4_new _ _ _ _ _ _).2.1 (box4_new _ _ _ _ _ _).2.2.1 (box4_new _ _ _ _ _ _).2.2.2.1)
  have hB : Below w.heap.size w w1 := below_of_box (by simpa using hb1)
  have HS1 := Lib.hid ((HS.out.below hB (Nat.le_refl _)).more hB.size)
  have HT1 := Lib.hid ((HT.out.below hB (Nat.le_refl _)).more hB.size)
  have HB := Lib.hid hB
  clear hb1 hB
  cases hs1 : allB m S
  · refine wp_region_ext (by kernel_rfl) (by kernel_rfl) ?_
    repeat (go_big_quiet_step ((first | (go_at_call 109; refine calls_ext (shape_any _ _ _ _ _ _ _ _ _)) | (go_at_call 138; refine calls_ext (hasAll_any _ _ _ _ _ _ _ _ _ _ _ S _ ((HS1.out.ext (Nat.le_refl _) _).more (ext_size _ _)) hla)))))
    refine wpQuiet_nil ?_
    intro w2 hb2
    go_wp2
    go_ret
    exact ⟨ret_bool (by rw [hs1]; rfl), HB.out.trans (hb2.mono HB.out.size)⟩
  · refine wp_region_ext (by kernel_rfl) (by kernel_rfl) ?_
    repeat (go_big_quiet_step ((first | (go_at_call 109; refine calls_ext (shape_any _ _ _ _ _ _ _ _ _)) | (go_at_call 138; refine calls_ext (hasAll_any _ _ _ _ _ _ _ _ _ _ _ S _ ((HS1.out.ext (Nat.le_refl _) _).more (ext_size _ _)) hla)) | (go_at_call 138; refine calls_ext (hasAll_any _ _ _ _ _ _ _ _ _ _ _ T _ ((HT1.out.ext (Nat.le_refl _) _).more (ext_size _ _)) hlb)))))
    refine wpQuiet_nil ?_
    intro w2 hb2
    go_wp2
    go_ret
    exact ⟨ret_bool (by rw [hs1]; rfl), HB.out.trans (hb2.mono HB.out.size)⟩

/-- The bounds of a ring's tables. -/
theorem fits_any (n o : Int) (A B : Option Addr) (la ca lb cb : Nat) (S T : List Int) (w : World)
    (hS : Ints w w.heap.size A la S) (hT : Ints w w.heap.size B lb T) (hla : la ≤ 9223372036854775807) (hlb : lb ≤ 9223372036854775807) :
    Calls Try.prog 75 #[.agg #[.int .i64 n, .int .i64 o, .slice A la ca, .slice B lb cb]] w fun e w' => e = .returned (.bool (fitsB n o S T)) ∧ Below w.heap.size w w' := by
  have hSl := hS.1
  have hTl := hT.1
  unfold fitsB
  by_cases h1 : 1 ≤ n
  · by_cases h2 : n ≤ 16
    · obtain ⟨m, rfl⟩ := Int.eq_ofNat_of_zero_le (show 0 ≤ n by omega)
      rw [decide_eq_true h1, decide_eq_true h2, Bool.true_and, Bool.true_and, hSl, hTl]
      cases ho : inB m o
      · exact fits_one _ _ _ _ _ _ _ _ _ h1 h2 ho
      · cases hl : eq4 m o la lb m o (m * m) (m * m)
        · exact fits_len _ _ _ _ _ _ _ _ _ (by omega) (by omega) ho hl
        · exact fits_all _ _ _ _ _ _ _ _ _ _ _ (by omega) (by omega) ho hl hS hT hla hlb
    · rw [decide_eq_true h1, decide_eq_false h2]
      exact fits_low _ _ _ _ _ _ _ _ _ (.inr (by omega))
  · rw [decide_eq_false h1]
    exact fits_low _ _ _ _ _ _ _ _ _ (.inl (by omega))

end Go.Proofs.Ytpdonhoeimenjaa
