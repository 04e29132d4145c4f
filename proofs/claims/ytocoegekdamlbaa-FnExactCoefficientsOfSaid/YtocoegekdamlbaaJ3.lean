
/- Rings of polynomials: sizes, validity, digits, by both sides. -/
import Derived.Test.YtocoegekdamlbaaJ2
namespace Go.Proofs.Ytocoegekdamlbaa
open Go.RowKit
set_option maxRecDepth 100000

theorem pow_le {m k : Nat} (hm : m ≤ 16) (hk : k ≤ 4) : m ^ k ≤ 65536 :=
  Nat.le_trans (Nat.pow_le_pow_left hm k) (Nat.le_trans (Nat.pow_le_pow_right (by omega) hk) (by decide))
theorem pow_step (m k : Nat) : ((m ^ k : Nat) : Int) * (m : Int) = ((m ^ (k + 1) : Nat) : Int) := by rw [Nat.pow_succ]; simp
theorem pow_pos {m k : Nat} (hm : 1 ≤ m) : 1 ≤ m ^ k := Nat.one_le_pow _ _ hm
theorem pow_mono {m k l : Nat} (hm : 1 ≤ m) (h : k ≤ l) : m ^ k ≤ m ^ l := Nat.pow_le_pow_right hm h

/-- A ring of polynomials as the program holds it. -/
abbrev towV (n o : Int) (A B F : Option Addr) (la ca lb cb lf cf : Nat) : Array Value := #[.int .i64 n, .int .i64 o, .slice A la ca, .slice B lb cb, .slice F lf cf]
theorem blk5 {w : World} {g : Nat} {t : TypeId} {a b c d e : Value} (h : Blk w g t #[a, b, c, d, e]) : w.cell? ⟨g, 0, none⟩ = some a ∧ w.cell? ⟨g, 1, none⟩ = some b ∧ w.cell? ⟨g, 2, none⟩ = some c ∧ w.cell? ⟨g, 3, none⟩ = some d ∧ w.cell? ⟨g, 4, none⟩ = some e :=
  ⟨h.cell 0, h.cell 1, h.cell 2, h.cell 3, h.cell 4⟩

set_option maxHeartbeats 2000000 in
theorem tsize_any (m : Nat) (o : Int) (A B F : Option Addr) (la ca lb cb lf cf : Nat) (w : World) (hm' : m ≤ 16) (hf : lf ≤ 4) :
    Calls Try.prog 54 #[.agg (towV m o A B F la ca lb cb lf cf)] w fun e' w' => e' = .returned (.int .i64 (m ^ lf : Nat)) ∧ Below w.heap.size w w' := by
  obtain ⟨W, hW⟩ : ∃ W, w.alloc (.cells (towV m o A B F la ca lb cb lf cf) 50) = W := ⟨_, rfl⟩
  have k0 : Blk W w.heap.size 50 (towV m o A B F la ca lb cb lf cf) := by subst hW; exact Blk.new w _ _
  have b0 : Below w.heap.size w W := by subst hW; exact (Below.refl _ _).alloc (Nat.le_refl _) _
  obtain ⟨c0, c1, c2, c3, c4⟩ := blk5 k0
  have HW := Lib.hid hW
  have B0 := Lib.hid b0
  clear hW b0 k0
  go_enter Try.func54, Try.ntmps54
  go_wp2_with (fail)
  rw [HW.out]
  go_wp2
  go_loopg [3, 7] 4 (fun g s i wr => wr = W ∧ ∃ k q : Nat, k ≤ lf ∧ lf ≤ k + g ∧ i = .int .i64 k ∧ s = .int .i64 q ∧ Hid (q = m ^ k))
  case atStart => exact ⟨rfl, 0, 1, Nat.zero_le _, by omega, rfl, rfl, Lib.hid (by simp)⟩
  case round =>
    obtain ⟨rfl, k, q, hk, hg, rfl, rfl, hq⟩ := hrel
    by_cases hlt : k < lf
    · have h1 : (q : Int) * (m : Int) = ((m ^ (k + 1) : Nat) : Int) := by rw [hq.out]; exact pow_step m k
      have h2 := pow_le hm' (show k + 1 ≤ 4 by omega)
      obtain ⟨p, hp⟩ : ∃ p, m ^ (k + 1) = p := ⟨_, rfl⟩
      rw [hp] at h1 h2
      have hw : IntKind.i64.wrap ((q : Int) * (m : Int)) = p := by rw [h1]; exact IntWalk.i64_in _ (by constructor <;> omega)
      have HP := Lib.hid hp.symm
      clear h1 hp
      go_wp2
      go_roundg (lf - (k + 1))
      case measure => omega
      case rel => exact ⟨by first | rfl | trivial, k + 1, p, by omega, by omega, by go_num, rfl, HP⟩
    · have hkk : k = lf := by omega
      subst hkk
      go_wp2
      go_ret
      exact ⟨ret_int (by rw [hq.out]), B0.out⟩

/-- The number of elements, or 17 where there are too many. -/
theorem min_step {m k : Nat} (hm : 1 ≤ m) : min (min (m ^ k) 17 * m) 17 = min (m ^ (k + 1)) 17 := by
  rw [Nat.pow_succ]
  rcases Nat.le_total (m ^ k) 17 with h | h
  · rw [Nat.min_eq_left h]
  · rw [Nat.min_eq_right h]
    have h1 : 17 ≤ 17 * m := Nat.le_mul_of_pos_right _ hm
    have h2 : 17 ≤ m ^ k * m := Nat.le_trans h (Nat.le_mul_of_pos_right _ hm)
    rw [Nat.min_eq_right h1, Nat.min_eq_right h2]

set_option maxHeartbeats 2000000 in
theorem l2Size_any (m : Nat) (o : Int) (A B F : Option Addr) (la ca lb cb lf cf : Nat) (w : World) (hm : 1 ≤ m) (hm' : m ≤ 16) (hf : lf ≤ 9223372036854775807) :
    Calls Try.prog 51 #[.agg #[.int .i64 m, .int .i64 o, .slice A la ca, .slice B lb cb], .slice F lf cf] w fun e' w' => e' = .returned (.int .i64 (min (m ^ lf) 17 : Nat)) ∧ Below w.heap.size w w' := by
  obtain ⟨c0, c1, c2, c3, hs⟩ := box4_new w (.int .i64 m) (.int .i64 o) (.slice A la ca) (.slice B lb cb) 28
  obtain ⟨W, hW⟩ : ∃ W, w.alloc (.cells #[.int .i64 m, .int .i64 o, .slice A la ca, .slice B lb cb] 28) = W := ⟨_, rfl⟩
  have b0 : Below w.heap.size w W := by subst hW; exact (Below.refl _ _).alloc (Nat.le_refl _) _
  rw [hW] at c0 c1 c2 c3 hs
  have HW := Lib.hid hW
  have B0 := Lib.hid b0
  clear hW b0
  go_enter Try.func51, Try.ntmps51
  go_wp2_with (fail)
  rw [HW.out]
  go_wp2
  go_loopw [5, 8] (fun s i wr => wr = W ∧ ∃ k q : Nat, k ≤ lf ∧ i = .int .i64 k ∧ s = .int .i64 q ∧ Hid (q = min (m ^ k) 17)) (fun _ i _ => lf - (intOf i).toNat)
  case atStart => exact ⟨rfl, 0, 1, Nat.zero_le _, rfl, rfl, Lib.hid (by simp)⟩
  case round =>
    obtain ⟨rfl, k, q, hk, rfl, rfl, hq⟩ := hrel
    by_cases hlt : k < lf
    · have h17 : q ≤ 17 := by rw [hq.out]; exact Nat.min_le_right _ _
      have h0 : q * m ≤ 17 * 16 := Nat.mul_le_mul h17 hm'
      have h1 : (q : Int) * (m : Int) = ((q * m : Nat) : Int) := by simp
      have h2 := Lib.hid (show min (q * m) 17 = min (m ^ (k + 1)) 17 by rw [hq.out]; exact min_step hm)
      obtain ⟨p, hp⟩ : ∃ p, q * m = p := ⟨_, rfl⟩
      rw [hp] at h0 h1 h2
      have hw : IntKind.i64.wrap ((q : Int) * (m : Int)) = p := by rw [h1]; exact IntWalk.i64_in _ (by constructor <;> omega)
      clear h1 hp
      go_wp2
      go_roundw
      case rel => exact ⟨by first | rfl | trivial, k + 1, min p 17, by omega, by go_num, by rw [show (if (17 : Int) < (p : Int) then (17 : Int) else (p : Int)) = ((min p 17 : Nat) : Int) by split <;> omega], h2⟩
      case measure => simp [intOf]; omega
    · have hkk : k = lf := by omega
      subst hkk
      go_wp2
      go_ret
      exact ⟨ret_int (by rw [hq.out]), B0.out⟩

end Go.Proofs.Ytocoegekdamlbaa
