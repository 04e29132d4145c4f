
/- The contracts of the smallest functions on rings. -/
import Derived.Test.Ytpdonhoeimenjaa0
namespace Go.Proofs.Ytpdonhoeimenjaa
open Go.RowKit

def inB (n a : Int) : Bool := decide (0 ≤ a ∧ a < n)
theorem inB_true {n a : Int} (h : 0 ≤ a ∧ a < n) : inB n a = true := decide_eq_true h
theorem inB_false {n a : Int} (h : ¬ (0 ≤ a ∧ a < n)) : inB n a = false := decide_eq_false h

theorem has_any (n o a : Int) (A B : Option Addr) (la ca lb cb : Nat) (w : World) :
    Calls Try.prog 85 #[.agg #[.int .i64 n, .int .i64 o, .slice A la ca, .slice B lb cb], .int .i64 a] w fun e w' => e = .returned (.bool (inB n a)) ∧ Below w.heap.size w w' := by
  by_cases h0 : 0 ≤ a
  · by_cases h1 : a < n
    · rw [inB_true ⟨h0, h1⟩]
      go_enter Try.func85, Try.ntmps85
      go_wp2
      go_ret
      exact ⟨rfl, (Below.refl _ _).alloc (Nat.le_refl _) _⟩
    · rw [inB_false (by omega)]
      go_enter Try.func85, Try.ntmps85
      go_wp2
      go_ret
      exact ⟨rfl, (Below.refl _ _).alloc (Nat.le_refl _) _⟩
  · rw [inB_false (by omega)]
    go_enter Try.func85, Try.ntmps85
    go_wp2
    go_ret
    exact ⟨rfl, (Below.refl _ _).alloc (Nat.le_refl _) _⟩

theorem row_nums {m a len cap : Nat} (hm : 1 ≤ m) (hm' : m ≤ 16) (h1 : a < m) (hl : len = m * m) (hc : len ≤ cap) : 0 ≤ ((a : Int) + 1) * m ∧ (a : Int) * m ≤ 256 ∧ ((a : Int) + 1) * m ≤ 256 ∧ ((a : Int) + 1) * m ≤ cap ∧ (a : Int) * m < ((a : Int) + 1) * m ∧ ¬ (((a : Int) + 1) * m).toNat = a * m ∧ (a + 1) * m - a * m = m := by
  have h2 : a * m ≤ 16 * 16 := Nat.mul_le_mul (by omega) hm'
  have h3 : (a + 1) * m ≤ 16 * 16 := Nat.mul_le_mul (by omega) hm'
  have h4 : (a + 1) * m ≤ m * m := Nat.mul_le_mul_right _ h1
  have e1 : (a : Int) * m = (a * m : Nat) := by simp
  have e2 : ((a : Int) + 1) * m = ((a * m + m : Nat) : Int) := by rw [Int.add_mul]; simp
  have e3 : (a + 1) * m = a * m + m := Nat.succ_mul _ _
  rw [e1, e2]
  refine ⟨?_, ?_, ?_, ?_, ?_, ?_, ?_⟩ <;> omega

theorem row_any (m : Nat) (o : Int) (A B : Option Addr) (la ca lb cb : Nat) (b off len cap a : Nat) (w : World) (hm : 1 ≤ m) (hm' : m ≤ 16) (h1 : a < m) (hl : len = m * m) (hc : len ≤ cap) :
    Calls Try.prog 139 #[.agg #[.int .i64 m, .int .i64 o, .slice A la ca, .slice B lb cb], .slice (some ⟨b, off, none⟩) len cap, .int .i64 a] w fun e w' =>
      e = .returned (.slice (some ⟨b, off + a * m, none⟩) m m) ∧ Below w.heap.size w w' := by
  obtain ⟨g0, g1, g2, g4, g5, g6, e⟩ := row_nums hm hm' h1 hl hc
  have H1 := Lib.hid e
  clear e hl
  go_enter Try.func139, Try.ntmps139
  go_wp2
  go_quiet (fail)
  go_wp2
  go_ret
  exact ⟨ret_slice H1.out H1.out, below_drewN ((Below.refl _ _).alloc (Nat.le_refl _) _) _⟩

def allB (n : Int) (xs : List Int) : Bool := decide (∀ k, k < xs.length → inB n (xs[k]?.getD 0) = true)
def UpTo (n : Int) (xs : List Int) (k : Nat) : Prop := ∀ j, j < k → inB n (xs[j]?.getD 0) = true

theorem allB_true {n : Int} {xs : List Int} (h : UpTo n xs xs.length) : allB n xs = true := decide_eq_true h
theorem allB_false {n : Int} {xs : List Int} {k : Nat} (hk : k < xs.length) (h : inB n (xs[k]?.getD 0) = false) : allB n xs = false := decide_eq_false fun g => by
  have := g k hk
  rw [h] at this
  cases this
theorem upTo_succ {n : Int} {xs : List Int} {k : Nat} (h : UpTo n xs k) (hk : inB n (xs[k]?.getD 0) = true) : UpTo n xs (k + 1) := fun j hj => by
  rcases Nat.lt_succ_iff_lt_or_eq.1 hj with h1 | rfl
  · exact h j h1
  · exact hk
theorem upTo_le {n : Int} {xs : List Int} {k l : Nat} (h : UpTo n xs k) (hl : l ≤ k) : UpTo n xs l := fun j hj => h j (by omega)

theorem hasAll_any (n o : Int) (A B C : Option Addr) (la ca lb cb len cap : Nat) (xs : List Int) (w : World) (hx : Ints w w.heap.size C len xs) (hl : len ≤ 9223372036854775807) :
    Calls Try.prog 138 #[.agg #[.int .i64 n, .int .i64 o, .slice A la ca, .slice B lb cb], .slice C len cap] w fun e w' => e = .returned (.bool (allB n xs)) ∧ Below w.heap.size w w' := by
  have HX := Lib.hid hx
  clear hx
  go_enter Try.func138, Try.ntmps138
  go_wp2
  go_loopw [9] (fun i wr => ∃ k : Nat, k ≤ len ∧ i = .int .i64 k ∧ UpTo n xs k ∧ Below (w.heap.size + 1) (w.alloc (.cells #[.int .i64 n, .int .i64 o, .slice A la ca, .slice B lb cb] 25)) wr)
    (fun i _ => len - (intOf i).toNat)
  case atStart => exact ⟨0, Nat.zero_le _, rfl, fun j hj => absurd hj (by omega), Below.refl _ _⟩
  case round =>
    obtain ⟨k, hk, rfl, hup, hb⟩ := hrel
    have HU := Lib.hid hup
    clear hup
    obtain ⟨c0, c1, c2, c3, hs⟩ := box4 hb
    by_cases hlt : k < len
    · obtain ⟨b, off, rfl, hbb, hc⟩ := ((HX.out.alloc (Nat.le_refl _) _).below hb (by omega)).at_ hlt
      have HB := Lib.hid hb
      clear hb
      cases hq : inB n (xs[k]?.getD 0)
      · go_wp2_with (go_at_call 85; refine (has_any _ _ _ _ _ _ _ _ _ _).mono ?_; rintro e w1 ⟨rfl, hb1⟩)
        go_ret
        refine ⟨ret_bool ?_, ?_⟩
        · exact (allB_false (by rw [HX.out.1]; exact hlt) hq).symm
        · exact below_box HB.out hb1 hs
      · go_wp2_with (go_at_call 85; refine (has_any _ _ _ _ _ _ _ _ _ _).mono ?_; rintro e w1 ⟨rfl, hb1⟩)
        go_roundw
        case rel => exact ⟨k + 1, by omega, by go_num, upTo_succ HU.out hq, HB.out.trans (hb1.mono (by omega))⟩
        case measure => simp [intOf]; omega
    · have hb1 : Below w.heap.size w wr := below_of_box hb
      go_wp2
      go_ret
      refine ⟨ret_bool ?_, hb1⟩
      exact (allB_true (by rw [HX.out.1]; exact upTo_le HU.out (by omega))).symm
end Go.Proofs.Ytpdonhoeimenjaa
