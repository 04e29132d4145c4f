
/- Rings that are there: sums and products, by both sides. -/
import Derived.Test.YtpdonhoeimenjaaA6
namespace Go.Proofs.Ytpdonhoeimenjaa
open Go.RowKit

/-- A ring whose tables fit lies in a world. -/
structure RingAt (w : World) (m e b1 o1 la ca b2 o2 lb cb : Nat) (S P : Nat → Nat) : Prop where
  hm : 1 ≤ m
  hm' : m ≤ 16
  he : e < m
  hla : la = m * m
  hlb : lb = m * m
  hca : la ≤ ca
  hcb : lb ≤ cb
  ts : Tab w w.heap.size b1 o1 m S
  tp : Tab w w.heap.size b2 o2 m P
theorem RingAt.next {w w' : World} {m e b1 o1 la ca b2 o2 lb cb : Nat} {S P : Nat → Nat} (h : RingAt w m e b1 o1 la ca b2 o2 lb cb S P) (hb : Below w.heap.size w w') : RingAt w' m e b1 o1 la ca b2 o2 lb cb S P :=
  ⟨h.hm, h.hm', h.he, h.hla, h.hlb, h.hca, h.hcb, h.ts.next hb, h.tp.next hb⟩
theorem RingAt.more {w w' : World} {m e b1 o1 la ca b2 o2 lb cb B : Nat} {S P : Nat → Nat} (h : RingAt w m e b1 o1 la ca b2 o2 lb cb S P) (hb : Below B w w') (hB : w.heap.size ≤ B) : RingAt w' m e b1 o1 la ca b2 o2 lb cb S P := h.next (hb.mono hB)

theorem mul_nums {m a b : Nat} (hm' : m ≤ 16) (ha : a < m) (hb : b < m) : (a : Int) * m + b ≤ 256 ∧ 0 ≤ (a : Int) * m ∧ (a : Int) * m ≤ 256 ∧ a * m + b < m * m ∧ (a : Int) * m + b < ((m * m : Nat) : Int) := by
  have h2 : a * m ≤ 16 * 16 := Nat.mul_le_mul (by omega) hm'
  have h3 := idx_lt ha hb
  have e1 : (a : Int) * m = (a * m : Nat) := by simp
  have h4 : m * m ≤ 16 * 16 := Nat.mul_le_mul (by omega) hm'
  rw [e1]
  refine ⟨?_, ?_, ?_, ?_, ?_⟩ <;> omega

set_option maxHeartbeats 400000 in
theorem l1Add_any (a b : Nat) (m e b1 o1 la ca b2 o2 lb cb : Nat) (S P : Nat → Nat) (w : World) (hr : RingAt w m e b1 o1 la ca b2 o2 lb cb S P) (ha : a < m) (hb : b < m) :
    Calls Try.prog 81 #[.agg #[.int .i64 m, .int .i64 e, .slice (some ⟨b1, o1, none⟩) la ca, .slice (some ⟨b2, o2, none⟩) lb cb], .int .i64 a, .int .i64 b] w fun e' w' => e' = .returned (.int .i64 (S (a * m + b))) ∧ Below w.heap.size w w' := by
  obtain ⟨hm, hm', he, hla, hlb, hca, hcb, ts, tp⟩ := hr
  have hc := ((ts.next ((Below.refl w.heap.size w).alloc (Nat.le_refl _) (.cells #[.int .i64 m, .int .i64 e, .slice (some ⟨b1, o1, none⟩) la ca, .slice (some ⟨b2, o2, none⟩) lb cb] 25))).2 _ (idx_lt ha hb)).1
  obtain ⟨g1, g2, g3, g4, g5⟩ := mul_nums hm' ha hb
  rw [← hla] at g4 g5
  clear ts tp hla hlb
  go_enter Try.func81, Try.ntmps81
  go_wp2
  go_ret
  exact ⟨rfl, (Below.refl _ _).alloc (Nat.le_refl _) _⟩
set_option maxHeartbeats 400000 in
theorem l1Mul_any (a b : Nat) (m e b1 o1 la ca b2 o2 lb cb : Nat) (S P : Nat → Nat) (w : World) (hr : RingAt w m e b1 o1 la ca b2 o2 lb cb S P) (ha : a < m) (hb : b < m) :
    Calls Try.prog 82 #[.agg #[.int .i64 m, .int .i64 e, .slice (some ⟨b1, o1, none⟩) la ca, .slice (some ⟨b2, o2, none⟩) lb cb], .int .i64 a, .int .i64 b] w fun e' w' => e' = .returned (.int .i64 (P (a * m + b))) ∧ Below w.heap.size w w' := by
  obtain ⟨hm, hm', he, hla, hlb, hca, hcb, ts, tp⟩ := hr
  have hc := ((tp.next ((Below.refl w.heap.size w).alloc (Nat.le_refl _) (.cells #[.int .i64 m, .int .i64 e, .slice (some ⟨b1, o1, none⟩) la ca, .slice (some ⟨b2, o2, none⟩) lb cb] 25))).2 _ (idx_lt ha hb)).1
  obtain ⟨g1, g2, g3, g4, g5⟩ := mul_nums hm' ha hb
  rw [← hlb] at g4 g5
  clear ts tp hla hlb
  go_enter Try.func82, Try.ntmps82
  go_wp2
  go_ret
  exact ⟨rfl, (Below.refl _ _).alloc (Nat.le_refl _) _⟩
set_option maxHeartbeats 400000 in
theorem sum_any (a b : Nat) (m e b1 o1 la ca b2 o2 lb cb : Nat) (S P : Nat → Nat) (w : World) (hr : RingAt w m e b1 o1 la ca b2 o2 lb cb S P) (ha : a < m) (hb : b < m) :
    Calls Try.prog 86 #[.agg #[.int .i64 m, .int .i64 e, .slice (some ⟨b1, o1, none⟩) la ca, .slice (some ⟨b2, o2, none⟩) lb cb], .int .i64 a, .int .i64 b] w fun e' w' => e' = .returned (.int .i64 (S (a * m + b))) ∧ Below w.heap.size w w' := by
  obtain ⟨hm, hm', he, hla, hlb, hca, hcb, ts, tp⟩ := hr
  have HS := Lib.hid ts
  have HL := Lib.hid hla
  clear ts tp hla hlb
  go_enter Try.func86, Try.ntmps86
  go_wp2_with (go_at_call 139; refine (row_any _ _ _ _ _ _ _ _ _ _ _ _ _ _ hm hm' ha HL.out hca).mono ?_; rintro e1 w1 ⟨rfl, hb1⟩; have hc := ((HS.out.next ((Below.refl _ _).alloc (Nat.le_refl _) _)).next hb1).at_ ha hb)
  go_ret
  exact ⟨rfl, ((Below.refl _ _).alloc (Nat.le_refl _) _).trans (hb1.mono (by simp))⟩
set_option maxHeartbeats 400000 in
theorem product_any (a b : Nat) (m e b1 o1 la ca b2 o2 lb cb : Nat) (S P : Nat → Nat) (w : World) (hr : RingAt w m e b1 o1 la ca b2 o2 lb cb S P) (ha : a < m) (hb : b < m) :
    Calls Try.prog 87 #[.agg #[.int .i64 m, .int .i64 e, .slice (some ⟨b1, o1, none⟩) la ca, .slice (some ⟨b2, o2, none⟩) lb cb], .int .i64 a, .int .i64 b] w fun e' w' => e' = .returned (.int .i64 (P (a * m + b))) ∧ Below w.heap.size w w' := by
  obtain ⟨hm, hm', he, hla, hlb, hca, hcb, ts, tp⟩ := hr
  have HS := Lib.hid tp
  have HL := Lib.hid hlb
  clear ts tp hla hlb
  go_enter Try.func87, Try.ntmps87
  go_wp2_with (go_at_call 139; refine (row_any _ _ _ _ _ _ _ _ _ _ _ _ _ _ hm hm' ha HL.out hcb).mono ?_; rintro e1 w1 ⟨rfl, hb1⟩; have hc := ((HS.out.next ((Below.refl _ _).alloc (Nat.le_refl _) _)).next hb1).at_ ha hb)
  go_ret
  exact ⟨rfl, ((Below.refl _ _).alloc (Nat.le_refl _) _).trans (hb1.mono (by simp))⟩

/-- The place of 0 in a row of sums. -/
def negN (m : Nat) (S : Nat → Nat) (a : Nat) : Int := idx (rowL m S a) 0
set_option maxHeartbeats 400000 in
theorem negative_any (a : Nat) (m e b1 o1 la ca b2 o2 lb cb : Nat) (S P : Nat → Nat) (w : World) (hr : RingAt w m e b1 o1 la ca b2 o2 lb cb S P) (ha : a < m) :
    Calls Try.prog 88 #[.agg #[.int .i64 m, .int .i64 e, .slice (some ⟨b1, o1, none⟩) la ca, .slice (some ⟨b2, o2, none⟩) lb cb], .int .i64 a] w fun e' w' => e' = .returned (.int .i64 (negN m S a)) ∧ Below w.heap.size w w' := by
  obtain ⟨hm, hm', he, hla, hlb, hca, hcb, ts, tp⟩ := hr
  have HS := Lib.hid ts
  have HL := Lib.hid hla
  clear ts tp hla hlb
  go_enter Try.func88, Try.ntmps88
  go_wp2_with (first
    | (go_at_call 139; refine (row_any _ _ _ _ _ _ _ _ _ _ _ _ _ _ hm hm' ha HL.out hca).mono ?_; rintro e1 w1 ⟨rfl, hb1⟩; have HR := Lib.hid (((HS.out.next ((Below.refl _ _).alloc (Nat.le_refl _) _)).next hb1).row ha))
    | (go_at_call 141; refine (index_any _ _ _ (rowL m S a) _ _ _ HR.out (by omega)).mono ?_; rintro e2 w2 ⟨rfl, rfl⟩))
  go_ret
  exact ⟨rfl, ((Below.refl _ _).alloc (Nat.le_refl _) _).trans (hb1.mono (by simp))⟩

end Go.Proofs.Ytpdonhoeimenjaa
