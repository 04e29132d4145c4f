
/- The reading side's bounds: l1In, l1Elements, l1Shape. -/
import Derived.Test.YtpdonhoeimenjaaA7
namespace Go.Proofs.Ytpdonhoeimenjaa
open Go.RowKit

def inC (x lo hi : Int) : Bool := decide (lo ≤ x ∧ x ≤ hi)
theorem inC_true {x lo hi : Int} (h : lo ≤ x ∧ x ≤ hi) : inC x lo hi = true := decide_eq_true h
theorem inC_false {x lo hi : Int} (h : ¬ (lo ≤ x ∧ x ≤ hi)) : inC x lo hi = false := decide_eq_false h
theorem l1In_any (x lo hi : Int) (w : World) : Calls Try.prog 114 #[.int .i64 x, .int .i64 lo, .int .i64 hi] w fun e w' => e = .returned (.bool (inC x lo hi)) ∧ w = w' := by
  by_cases h1 : lo ≤ x
  · by_cases h2 : x ≤ hi
    · rw [inC_true ⟨h1, h2⟩]
      go_enter Try.func114, Try.ntmps114
      go_wp2
      go_ret
      exact ⟨rfl, rfl⟩
    · rw [inC_false (by omega)]
      go_enter Try.func114, Try.ntmps114
      go_wp2
      go_ret
      exact ⟨rfl, rfl⟩
  · rw [inC_false (by omega)]
    go_enter Try.func114, Try.ntmps114
    go_wp2
    go_ret
    exact ⟨rfl, rfl⟩

def elB (h : Int) (xs : List Int) : Bool := decide (∀ k, k < xs.length → inC (xs[k]?.getD 0) 0 h = true)
def ElTo (h : Int) (xs : List Int) (k : Nat) : Prop := ∀ j, j < k → inC (xs[j]?.getD 0) 0 h = true
theorem elB_true {h : Int} {xs : List Int} (g : ElTo h xs xs.length) : elB h xs = true := decide_eq_true g
theorem elB_false {h : Int} {xs : List Int} {k : Nat} (hk : k < xs.length) (g : inC (xs[k]?.getD 0) 0 h = false) : elB h xs = false := decide_eq_false fun f => by
  have := f k hk
  rw [g] at this
  cases this

set_option maxHeartbeats 400000 in
theorem l1Elements_any (n h : Int) (C : Option Addr) (len cap : Nat) (xs : List Int) (w : World) (B : Nat) (hh : wrap64 (n - 1) = h) (hx : Ints w B C len xs) (hl : len ≤ 9223372036854775807) :
    Calls Try.prog 90 #[.int .i64 n, .slice C len cap] w fun e w' => e = .returned (.bool (elB h xs)) ∧ w = w' := by
  have HX := Lib.hid hx
  clear hx
  go_enter Try.func90, Try.ntmps90
  go_wp2
  go_loop [9] (fun i => ∃ k : Nat, k ≤ len ∧ i = .int .i64 k ∧ ElTo h xs k) (fun i => len - (intOf i).toNat)
  case atStart => exact ⟨0, Nat.zero_le _, rfl, fun j hj => absurd hj (by omega)⟩
  case round =>
    obtain ⟨k, hk, rfl, hup⟩ := hrel
    have HU := Lib.hid hup
    clear hup
    by_cases hlt : k < len
    · obtain ⟨b, off, rfl, hbb, hc⟩ := HX.out.at_ hlt
      cases hq : inC (xs[k]?.getD 0) 0 h
      · go_wp2_with (go_at_call 114; refine (l1In_any _ _ _ _).mono ?_; rintro e1 w1 ⟨rfl, rfl⟩)
        go_ret
        exact ⟨ret_bool (elB_false (by rw [HX.out.1]; exact hlt) hq).symm, rfl⟩
      · go_wp2_with (go_at_call 114; refine (l1In_any _ _ _ _).mono ?_; rintro e1 w1 ⟨rfl, rfl⟩)
        go_round
        case rel => exact ⟨k + 1, by omega, by go_num, forall_succ HU.out hq⟩
        case measure => simp [intOf]; omega
    · go_wp2
      go_ret
      exact ⟨ret_bool (elB_true fun j hj => HU.out j (by rw [HX.out.1] at hj; omega)).symm, rfl⟩

/-- .. of a size that does not wrap: the numbers are elements. -/
theorem elB_allB {n : Int} {xs : List Int} : elB (n - 1) xs = allB n xs := by
  unfold elB allB
  refine decide_eq_decide.2 ⟨fun h k hk => ?_, fun h k hk => ?_⟩
  · have := of_decide_eq_true (h k hk); exact inB_true (by omega)
  · have := of_decide_eq_true (h k hk); exact inC_true (by omega)
theorem elB_one {n o : Int} : elB (n - 1) [o] = inB n o := by
  rw [elB_allB]
  unfold allB inB
  refine decide_eq_decide.2 ⟨fun h => of_decide_eq_true (h 0 (by simp)), fun h k hk => ?_⟩
  have : k = 0 := by simp at hk; omega
  subst this
  exact inB_true h
theorem wrap_in {n : Int} (h1 : -9223372036854775808 ≤ n) (h2 : n ≤ 9223372036854775807) : wrap64 n = n := IntWalk.wrap64_in n ⟨h1, h2⟩

set_option maxHeartbeats 1000000 in
theorem shape_low (n o : Int) (A B : Option Addr) (la ca lb cb : Nat) (w : World) (h : inC n 1 16 = false) :
    Calls Try.prog 79 #[.agg #[.int .i64 n, .int .i64 o, .slice A la ca, .slice B lb cb]] w fun e w' => e = .returned (.bool false) ∧ Below w.heap.size w w' := by
  go_enter Try.func79, Try.ntmps79
  go_wp2_with (go_at_call 114; refine (l1In_any _ _ _ _).mono ?_; rintro e1 w1 ⟨rfl, rfl⟩)
  go_ret
  exact ⟨rfl, (Below.refl _ _).alloc (Nat.le_refl _) _⟩

set_option maxHeartbeats 1000000 in
theorem shape_len (m : Nat) (o : Int) (A B : Option Addr) (la ca lb cb : Nat) (w : World) (h : inC m 1 16 = true) (h2 : m ≤ 16) (hl : ((la : Int) != m * m) = true) :
    Calls Try.prog 79 #[.agg #[.int .i64 m, .int .i64 o, .slice A la ca, .slice B lb cb]] w fun e w' => e = .returned (.bool false) ∧ Below w.heap.size w w' := by
  obtain ⟨s1, s2⟩ := sq_le h2
  go_enter Try.func79, Try.ntmps79
  go_wp2_with (go_at_call 114; refine (l1In_any _ _ _ _).mono ?_; rintro e1 w1 ⟨rfl, rfl⟩)
  go_ret
  exact ⟨rfl, (Below.refl _ _).alloc (Nat.le_refl _) _⟩
set_option maxHeartbeats 1000000 in
theorem shape_len2 (m : Nat) (o : Int) (A B : Option Addr) (la ca lb cb : Nat) (w : World) (h : inC m 1 16 = true) (h2 : m ≤ 16) (hl : ((la : Int) != m * m) = false) (hl2 : ((lb : Int) != m * m) = true) :
    Calls Try.prog 79 #[.agg #[.int .i64 m, .int .i64 o, .slice A la ca, .slice B lb cb]] w fun e w' => e = .returned (.bool false) ∧ Below w.heap.size w w' := by
  obtain ⟨s1, s2⟩ := sq_le h2
  go_enter Try.func79, Try.ntmps79
  go_wp2_with (go_at_call 114; refine (l1In_any _ _ _ _).mono ?_; rintro e1 w1 ⟨rfl, rfl⟩)
  go_ret
  exact ⟨rfl, (Below.refl _ _).alloc (Nat.le_refl _) _⟩

theorem ints_one {w : World} {v : Int} {T : TypeId} : Ints (w.alloc (.cells #[.int .i64 v] T)) (w.heap.size + 1) (some ⟨w.heap.size, 0, none⟩) 1 [v] := by
  refine ⟨rfl, fun _ => ⟨_, _, rfl, Nat.lt_succ_self _, fun k x hx => ?_⟩⟩
  have hk : k = 0 := by
    rcases k with _ | k
    · rfl
    · simp at hx
  subst hk
  simp at hx
  subst hx
  exact cell_of_row _ _ _ _ _ (0, 0) (heap_alloc_new w _)

set_option maxHeartbeats 2000000 in
theorem shape_all (m : Nat) (o : Int) (A B : Option Addr) (la ca lb cb : Nat) (X Y : List Int) (w : World) (h : inC m 1 16 = true) (h1 : 1 ≤ m) (h2 : m ≤ 16) (hl : ((la : Int) != m * m) = false) (hl2 : ((lb : Int) != m * m) = false)
    (hX : Ints w w.heap.size A la X) (hY : Ints w w.heap.size B lb Y) (hla : la ≤ 9223372036854775807) (hlb : lb ≤ 9223372036854775807) :
    Calls Try.prog 79 #[.agg #[.int .i64 m, .int .i64 o, .slice A la ca, .slice B lb cb]] w fun e w' => e = .returned (.bool (elB (m - 1) [o] && (elB (m - 1) X && elB (m - 1) Y))) ∧ Below w.heap.size w w' := by
  obtain ⟨s1, s2⟩ := sq_le h2
  have HX := Lib.hid ((hX.alloc (Nat.le_refl _) (.cells #[.int .i64 m, .int .i64 o, .slice A la ca, .slice B lb cb] 25)).alloc (by simp) (.cells #[.int .i64 o] 3))
  have HY := Lib.hid ((hY.alloc (Nat.le_refl _) (.cells #[.int .i64 m, .int .i64 o, .slice A la ca, .slice B lb cb] 25)).alloc (by simp) (.cells #[.int .i64 o] 3))
  have HW := Lib.hid (show wrap64 ((m : Int) - 1) = (m : Int) - 1 from wrap_in (by omega) (by omega))
  have HO := Lib.hid (show Ints ((w.alloc (.cells #[.int .i64 m, .int .i64 o, .slice A la ca, .slice B lb cb] 25)).alloc (.cells #[.int .i64 o] 3)) (w.heap.size + 2) (some ⟨w.heap.size + 1, 0, none⟩) 1 [o] by
    have := ints_one (w := w.alloc (.cells #[.int .i64 m, .int .i64 o, .slice A la ca, .slice B lb cb] 25)) (v := o) (T := 3)
    simpa using this)
  clear hX hY
  cases q1 : elB (m - 1) [o]
  · go_enter Try.func79, Try.ntmps79
    go_wp2_with (first
      | (go_at_call 114; refine (l1In_any _ _ _ _).mono ?_; rintro e1 w1 ⟨rfl, rfl⟩)
      | (go_at_call 90; ((with_reducible refine (l1Elements_any _ _ _ _ _ [o] _ _ HW.out HO.out (by omega)).mono ?_); rintro e2 w2 ⟨rfl, rfl⟩)))
    go_ret
    exact ⟨rfl, ((Below.refl _ _).alloc (Nat.le_refl _) _).alloc (by simp) _⟩
  cases q2 : elB (m - 1) X
  · go_enter Try.func79, Try.ntmps79
    go_wp2_with (first
      | (go_at_call 114; refine (l1In_any _ _ _ _).mono ?_; rintro e1 w1 ⟨rfl, rfl⟩)
      | (go_at_call 90; ((with_reducible refine (l1Elements_any _ _ _ _ _ [o] _ _ HW.out HO.out (by omega)).mono ?_); rintro e2 w2 ⟨rfl, rfl⟩))
      | (go_at_call 90; ((with_reducible refine (l1Elements_any _ _ _ _ _ X _ _ HW.out HX.out hla).mono ?_); rintro e2 w2 ⟨rfl, rfl⟩))
      | (go_at_call 90; ((with_reducible refine (l1Elements_any _ _ _ _ _ Y _ _ HW.out HY.out hlb).mono ?_); rintro e2 w2 ⟨rfl, rfl⟩)))
    go_ret
    exact ⟨rfl, ((Below.refl _ _).alloc (Nat.le_refl _) _).alloc (by simp) _⟩
  · go_enter Try.func79, Try.ntmps79
    go_wp2_with (first
      | (go_at_call 114; refine (l1In_any _ _ _ _).mono ?_; rintro e1 w1 ⟨rfl, rfl⟩)
      | (go_at_call 90; ((with_reducible refine (l1Elements_any _ _ _ _ _ [o] _ _ HW.out HO.out (by omega)).mono ?_); rintro e2 w2 ⟨rfl, rfl⟩))
      | (go_at_call 90; ((with_reducible refine (l1Elements_any _ _ _ _ _ X _ _ HW.out HX.out hla).mono ?_); rintro e2 w2 ⟨rfl, rfl⟩))
      | (go_at_call 90; ((with_reducible refine (l1Elements_any _ _ _ _ _ Y _ _ HW.out HY.out hlb).mono ?_); rintro e2 w2 ⟨rfl, rfl⟩)))
    go_ret
    exact ⟨rfl, ((Below.refl _ _).alloc (Nat.le_refl _) _).alloc (by simp) _⟩

/-- The bounds of a ring's tables, by the reading side: the same. -/
theorem l1Shape_any (n o : Int) (A B : Option Addr) (la ca lb cb : Nat) (X Y : List Int) (w : World)
    (hX : Ints w w.heap.size A la X) (hY : Ints w w.heap.size B lb Y) (hla : la ≤ 9223372036854775807) (hlb : lb ≤ 9223372036854775807) :
    Calls Try.prog 79 #[.agg #[.int .i64 n, .int .i64 o, .slice A la ca, .slice B lb cb]] w fun e w' => e = .returned (.bool (fitsB n o X Y)) ∧ Below w.heap.size w w' := by
  have hXl := hX.1
  have hYl := hY.1
  by_cases h1 : 1 ≤ n
  · by_cases h2 : n ≤ 16
    · obtain ⟨m, rfl⟩ := Int.eq_ofNat_of_zero_le (show 0 ≤ n by omega)
      have hi : inC m 1 16 = true := inC_true ⟨h1, h2⟩
      by_cases h3 : (la : Int) = m * m
      · by_cases h4 : (lb : Int) = m * m
        · have hf : fitsB m o X Y = (elB (m - 1) [o] && (elB (m - 1) X && elB (m - 1) Y)) := by
            unfold fitsB
            rw [decide_eq_true h1, decide_eq_true h2, hXl, hYl, eq4_true ⟨rfl, rfl, h3, h4⟩, elB_one, elB_allB, elB_allB]
            rfl
          rw [hf]
          exact shape_all m o A B la ca lb cb X Y w hi (by omega) (by omega) (by rw [bne_eq_false_iff_eq]; exact h3) (by rw [bne_eq_false_iff_eq]; exact h4) hX hY hla hlb
        · have hf : fitsB m o X Y = false := by
            unfold fitsB
            rw [hXl, hYl, eq4_false (fun h => h4 h.2.2.2)]
            simp
          rw [hf]
          exact shape_len2 m o A B la ca lb cb w hi (by omega) (by rw [bne_eq_false_iff_eq]; exact h3) (by rw [bne_iff_ne]; exact h4)
      · have hf : fitsB m o X Y = false := by
          unfold fitsB
          rw [hXl, hYl, eq4_false (fun h => h3 h.2.2.1)]
          simp
        rw [hf]
        exact shape_len m o A B la ca lb cb w hi (by omega) (by rw [bne_iff_ne]; exact h3)
    · have hf : fitsB n o X Y = false := by
        unfold fitsB
        rw [decide_eq_false h2]
        simp
      rw [hf]
      exact shape_low n o A B la ca lb cb w (inC_false (by omega))
  · have hf : fitsB n o X Y = false := by
      unfold fitsB
      rw [decide_eq_false h1]
      simp
    rw [hf]
    exact shape_low n o A B la ca lb cb w (inC_false (by omega))

end Go.Proofs.Ytpdonhoeimenjaa
