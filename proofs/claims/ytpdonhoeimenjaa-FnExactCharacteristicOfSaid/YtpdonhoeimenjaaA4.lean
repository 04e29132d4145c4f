
/- Contracts: the library's Index and Contains at lists of ints; negativesExist. -/
import Derived.Test.YtpdonhoeimenjaaA3
namespace Go.Proofs.Ytpdonhoeimenjaa
open Go.RowKit

/-- The place of a number in a list, or -1. -/
def idx (xs : List Int) (v : Int) : Int := if xs.findIdx (· == v) < xs.length then xs.findIdx (· == v) else -1
def Misses (xs : List Int) (v : Int) (k : Nat) : Prop := ∀ j, j < k → ¬ xs[j]?.getD 0 = v
theorem idx_hit {xs : List Int} {v : Int} {k : Nat} (hk : k < xs.length) (h : xs[k]?.getD 0 = v) (hm : Misses xs v k) : idx xs v = k := by
  have e : xs.findIdx (· == v) = k := by
    rw [List.findIdx_eq hk]
    rw [List.getElem?_eq_getElem hk] at h
    refine ⟨by simpa using h, fun j hj => ?_⟩
    have h2 := hm j hj
    rw [List.getElem?_eq_getElem (by omega)] at h2
    simpa using h2
  unfold idx
  rw [e, if_pos hk]
theorem idx_miss {xs : List Int} {v : Int} (hm : Misses xs v xs.length) : idx xs v = -1 := by
  unfold idx
  rw [if_neg]
  intro h
  have h1 := List.findIdx_getElem (w := h)
  have h2 := hm _ h
  rw [List.getElem?_eq_getElem h] at h2
  exact h2 (by simpa using h1)
theorem idx_bounds (xs : List Int) (v : Int) : -1 ≤ idx xs v ∧ idx xs v < (xs.length : Int) + 1 := by
  unfold idx; split <;> omega
/-- A list has a number. -/
theorem idx_nonneg {xs : List Int} {v : Int} : 0 ≤ idx xs v ↔ v ∈ xs := by
  unfold idx
  constructor
  · intro h
    split at h
    · rename_i hl
      have h1 := List.findIdx_getElem (w := hl)
      have h2 : xs[xs.findIdx (· == v)] = v := by simpa using h1
      rw [← h2]; exact List.getElem_mem _
    · omega
  · intro h
    have : xs.findIdx (· == v) < xs.length := List.findIdx_lt_length_of_exists ⟨v, h, by simp⟩
    rw [if_pos this]; omega

set_option maxHeartbeats 400000 in
theorem index_any (C : Option Addr) (len cap : Nat) (xs : List Int) (v : Int) (w : World) (B : Nat) (hx : Ints w B C len xs) (hl : len ≤ 9223372036854775807) :
    Calls Try.prog 141 #[.slice C len cap, .int .i64 v] w fun e w' => e = .returned (.int .i64 (idx xs v)) ∧ w = w' := by
  have HX := Lib.hid hx
  clear hx
  go_enter Try.func141, Try.ntmps141
  go_wp2
  go_loop [8] (fun i => ∃ k : Nat, k ≤ len ∧ i = .int .i64 k ∧ Misses xs v k) (fun i => len - (intOf i).toNat)
  case atStart => exact ⟨0, Nat.zero_le _, rfl, fun j hj => absurd hj (by omega)⟩
  case round =>
    obtain ⟨k, hk, rfl, hup⟩ := hrel
    have HU := Lib.hid hup
    clear hup
    by_cases hlt : k < len
    · obtain ⟨b, off, rfl, hbb, hc⟩ := HX.out.at_ hlt
      by_cases hv : xs[k]?.getD 0 = v
      · have HV := Lib.hid hv
        have ht : (v == xs[k]?.getD 0) = true := by rw [beq_iff_eq]; exact hv.symm
        clear hv
        go_wp2
        go_ret
        exact ⟨ret_int (idx_hit (by rw [HX.out.1]; exact hlt) HV.out HU.out).symm, rfl⟩
      · have HV := Lib.hid hv
        have ht : (v == xs[k]?.getD 0) = false := by rw [beq_eq_false_iff_ne]; exact fun h => hv h.symm
        clear hv
        go_wp2
        go_round
        case rel => exact ⟨k + 1, by omega, by go_num, forall_succ HU.out HV.out⟩
        case measure => simp [intOf]; omega
    · go_wp2
      go_ret
      exact ⟨ret_int (idx_miss fun j hj => HU.out j (by rw [HX.out.1] at hj; omega)).symm, rfl⟩

def hasB (xs : List Int) (v : Int) : Bool := decide (v ∈ xs)
theorem contains_any (C : Option Addr) (len cap : Nat) (xs : List Int) (v : Int) (w : World) (B : Nat) (hx : Ints w B C len xs) (hl : len ≤ 9223372036854775807) :
    Calls Try.prog 140 #[.slice C len cap, .int .i64 v] w fun e w' => e = .returned (.bool (hasB xs v)) ∧ w = w' := by
  have HX := Lib.hid hx
  have e : hasB xs v = decide (0 ≤ idx xs v) := by
    unfold hasB
    exact decide_eq_decide.2 idx_nonneg.symm
  have E := Lib.hid e
  clear hx e
  go_enter Try.func140, Try.ntmps140
  go_wp2_with (go_at_call 141; refine (index_any _ _ _ xs _ _ B HX.out hl).mono ?_; rintro e1 w1 ⟨rfl, rfl⟩)
  go_ret
  exact ⟨ret_bool E.out.symm, rfl⟩

/-- A row of a table, as a list. -/
def rowL (m : Nat) (T : Nat → Nat) (a : Nat) : List Int := (List.range m).map fun c => ((T (a * m + c) : Nat) : Int)
theorem rowL_get {m : Nat} {T : Nat → Nat} {a c : Nat} (hc : c < m) : (rowL m T a)[c]?.getD 0 = ((T (a * m + c) : Nat) : Int) := by
  unfold rowL
  rw [List.getElem?_map, List.getElem?_range hc]; rfl
theorem rowL_length {m : Nat} {T : Nat → Nat} {a : Nat} : (rowL m T a).length = m := by simp [rowL]
theorem rowL_mem {m : Nat} {T : Nat → Nat} {a v : Nat} : (v : Int) ∈ rowL m T a ↔ ∃ c, c < m ∧ T (a * m + c) = v := by
  simp [rowL]
  constructor
  · rintro ⟨c, hc, h⟩; exact ⟨c, hc, by omega⟩
  · rintro ⟨c, hc, h⟩; exact ⟨c, hc, by omega⟩
theorem Tab.row {w : World} {B b off m a : Nat} {T : Nat → Nat} (h : Tab w B b off m T) (ha : a < m) : Ints w B (some ⟨b, off + a * m, none⟩) m (rowL m T a) :=
  ⟨rowL_length, fun _ => ⟨b, off + a * m, rfl, h.1, fun k x hx => by
    have hk : k < m := by
      rcases Nat.lt_or_ge k m with h1 | h1
      · exact h1
      · rw [List.getElem?_eq_none (by rw [rowL_length]; exact h1)] at hx; cases hx
    have := rowL_get (T := T) (a := a) hk
    rw [hx] at this
    simp at this
    rw [this]
    exact h.at_ ha hk⟩⟩

def NegLaw (m : Nat) (T : Nat → Nat) : Prop := ∀ a, a < m → (0 : Int) ∈ rowL m T a
noncomputable def negB (m : Nat) (T : Nat → Nat) : Bool := propB (NegLaw m T)
def NegTo (m : Nat) (T : Nat → Nat) (k : Nat) : Prop := ∀ a, a < k → (0 : Int) ∈ rowL m T a

set_option maxHeartbeats 1000000 in
theorem negativesExist_any (m : Nat) (o : Int) (B : Option Addr) (lb cb : Nat) (b off len cap : Nat) (T : Nat → Nat) (w : World) (hm : 1 ≤ m) (hm' : m ≤ 16) (hl : len = m * m) (hc : len ≤ cap) (hT : Tab w w.heap.size b off m T) :
    Calls Try.prog 77 #[.agg #[.int .i64 m, .int .i64 o, .slice (some ⟨b, off, none⟩) len cap, .slice B lb cb]] w fun e' w' =>
      e' = .returned (.bool (negB m T)) ∧ Below w.heap.size w w' := by
  have HT := Lib.hid hT
  have HL := Lib.hid hl
  clear hT hl
  go_enter Try.func77, Try.ntmps77
  go_wp2
  go_loopg [6] m (fun g i wr => ∃ a : Nat, a ≤ m ∧ m ≤ a + g ∧ i = .int .i64 a ∧ NegTo m T a ∧ Below (w.heap.size + 1) (w.alloc (.cells #[.int .i64 m, .int .i64 o, .slice (some ⟨b, off, none⟩) len cap, .slice B lb cb] 25)) wr)
  case atStart => exact ⟨0, Nat.zero_le _, by omega, rfl, fun j hj => absurd hj (by omega), Below.refl _ _⟩
  case round =>
    obtain ⟨a, ha, hg, rfl, hup, hb⟩ := hrel
    have HU := Lib.hid hup
    clear hup
    obtain ⟨d0, d1, d2, d3, hs1⟩ := box4 hb
    have HB := Lib.hid (below_of_box hb)
    have HB1 := Lib.hid hb
    clear hb
    by_cases hlt : a < m
    · cases hq : hasB (rowL m T a) 0
      · go_wp2_with (first
          | (go_at_call 139; refine (row_any _ _ _ _ _ _ _ _ _ _ _ _ _ _ hm hm' hlt HL.out hc).mono ?_; rintro e1 w1 ⟨rfl, hb1⟩; have HT1 := Lib.hid (((HT.out.below HB.out (Nat.le_refl _)).below hb1 (by omega)).row hlt); have HB2 := Lib.hid hb1; clear hb1)
          | (go_at_call 140; refine (contains_any _ _ _ (rowL m T a) _ _ _ HT1.out (by omega)).mono ?_; rintro e2 w2 ⟨rfl, rfl⟩))
        go_ret
        exact ⟨ret_bool (propB_false fun g => by have := g a hlt; unfold hasB at hq; exact absurd this (of_decide_eq_false hq)).symm, HB.out.trans (HB2.out.mono (by omega))⟩
      · go_wp2_with (first
          | (go_at_call 139; refine (row_any _ _ _ _ _ _ _ _ _ _ _ _ _ _ hm hm' hlt HL.out hc).mono ?_; rintro e1 w1 ⟨rfl, hb1⟩; have HT1 := Lib.hid (((HT.out.below HB.out (Nat.le_refl _)).below hb1 (by omega)).row hlt); have HB2 := Lib.hid hb1; clear hb1)
          | (go_at_call 140; refine (contains_any _ _ _ (rowL m T a) _ _ _ HT1.out (by omega)).mono ?_; rintro e2 w2 ⟨rfl, rfl⟩))
        go_roundg (m - (a + 1))
        case measure => omega
        case rel => exact ⟨a + 1, by omega, by omega, by go_num, forall_succ HU.out (by unfold hasB at hq; exact of_decide_eq_true hq), HB1.out.trans (HB2.out.mono (by omega))⟩
    · go_wp2
      go_ret
      exact ⟨ret_bool (propB_true fun j hj => HU.out j (by omega)).symm, HB.out⟩

end Go.Proofs.Ytpdonhoeimenjaa
