
/- The laws' helpers: sizes; two rings that read the same. -/
import Derived.Test.YtpdonhoeimenjaaC1
namespace Go.Proofs.Ytpdonhoeimenjaa
open Go.RowKit

def szI (l : Int) (n : Nat) : Int := if (n : Int) ≤ l then l - n else -1
theorem szI_yes {l : Int} {n : Nat} (h : (n : Int) ≤ l) : szI l n = l - n := if_pos h
theorem szI_no {l : Int} {n : Nat} (h : ¬ (n : Int) ≤ l) : szI l n = -1 := if_neg h
theorem szIntS_any (A : Option Addr) (n c : Nat) (l : Int) (w : World) (h0 : 0 ≤ l) (h1 : l ≤ 1048576) (hn : n ≤ 9223372036854775807) :
    Calls Try.prog 134 #[.slice A n c, .int .i64 l] w fun e w' => e = .returned (.int .i64 (szI l n)) ∧ w = w' := by
  by_cases h : (n : Int) ≤ l
  · rw [szI_yes h]
    go_enter Try.func134, Try.ntmps134
    go_wp2
    go_ret
    exact ⟨rfl, rfl⟩
  · rw [szI_no h]
    go_enter Try.func134, Try.ntmps134
    go_wp2
    go_ret
    exact ⟨rfl, rfl⟩

def szR (l : Int) (la lb : Nat) : Int := if (la : Int) + lb ≤ l then l - la - lb else -1
theorem szRing_any (n o : Int) (A B : Option Addr) (la ca lb cb : Nat) (l : Int) (w : World) (h0 : 0 ≤ l) (h1 : l ≤ 1048576) (hla : la ≤ 9223372036854775807) (hlb : lb ≤ 9223372036854775807) :
    Calls Try.prog 69 #[.agg #[.int .i64 n, .int .i64 o, .slice A la ca, .slice B lb cb], .int .i64 l] w fun e w' => e = .returned (.int .i64 (szR l la lb)) ∧ Below w.heap.size w w' := by
  by_cases ha : (la : Int) ≤ l
  · have e1 := Lib.hid (szI_yes ha)
    by_cases hb : (lb : Int) ≤ l - la
    · have e2 := Lib.hid (szI_yes hb)
      have e3 := Lib.hid (show szR l la lb = l - la - lb from if_pos (by omega))
      go_enter Try.func69, Try.ntmps69
      go_wp2_with (fail)
      refine (szIntS_any A la ca l _ h0 h1 hla).mono ?_
      rintro e w1 ⟨rfl, rfl⟩
      rw [e1.out]
      go_wp2_with (fail)
      refine (szIntS_any B lb cb (l - la) _ (by omega) (by omega) hlb).mono ?_
      rintro e w1 ⟨rfl, rfl⟩
      rw [e2.out]
      go_wp2
      go_ret
      exact ⟨ret_int e3.out.symm, (Below.refl _ _).alloc (Nat.le_refl _) _⟩
    · have e2 := Lib.hid (szI_no hb)
      have e3 := Lib.hid (show szR l la lb = -1 from if_neg (by omega))
      go_enter Try.func69, Try.ntmps69
      go_wp2_with (fail)
      refine (szIntS_any A la ca l _ h0 h1 hla).mono ?_
      rintro e w1 ⟨rfl, rfl⟩
      rw [e1.out]
      go_wp2_with (fail)
      refine (szIntS_any B lb cb (l - la) _ (by omega) (by omega) hlb).mono ?_
      rintro e w1 ⟨rfl, rfl⟩
      rw [e2.out]
      go_wp2
      go_ret
      exact ⟨ret_int e3.out.symm, (Below.refl _ _).alloc (Nat.le_refl _) _⟩
  · have e1 := Lib.hid (szI_no ha)
    have e3 := Lib.hid (show szR l la lb = -1 from if_neg (by omega))
    go_enter Try.func69, Try.ntmps69
    go_wp2_with (fail)
    refine (szIntS_any A la ca l _ h0 h1 hla).mono ?_
    rintro e w1 ⟨rfl, rfl⟩
    rw [e1.out]
    go_wp2
    go_ret
    exact ⟨ret_int e3.out.symm, (Below.refl _ _).alloc (Nat.le_refl _) _⟩

set_option maxHeartbeats 1000000 in
theorem eqIntS_same (A B : Option Addr) (n ca cb : Nat) (xs : List Int) (w : World) (C D : Nat) (hA : Ints w C A n xs) (hB : Ints w D B n xs) (hn : n ≤ 9223372036854775807) :
    Calls Try.prog 136 #[.slice A n ca, .slice B n cb] w fun e w' => e = .returned (.bool true) ∧ Below w.heap.size w w' := by
  have HA := Lib.hid hA
  have HB := Lib.hid hB
  clear hA hB
  go_enter Try.func136, Try.ntmps136
  go_wp2
  go_loopw [5] (fun i wr => ∃ k : Nat, k ≤ n ∧ i = .int .i64 k ∧ ∃ d : Nat, wr = w.drewN d) (fun i _ => n - (intOf i).toNat)
  case atStart => exact ⟨0, Nat.zero_le _, rfl, 0, rfl⟩
  case round =>
    obtain ⟨k, hk, rfl, d, rfl⟩ := hrel
    by_cases hlt : k < n
    · obtain ⟨b1, o1, rfl, _, hc1⟩ := HA.out.at_ hlt
      obtain ⟨b2, o2, rfl, _, hc2⟩ := HB.out.at_ hlt
      go_wp2
      go_quiet (fail)
      go_wp2
      go_roundw
      case rel => exact ⟨k + 1, by omega, by go_num, _, rfl⟩
      case measure => simp [intOf]; omega
    · go_wp2
      go_ret
      exact ⟨rfl, below_drewN (Below.refl _ _) _⟩

set_option maxHeartbeats 1000000 in
theorem eqRing_same (n o : Int) (A B A' B' : Option Addr) (la ca lb cb ca' cb' : Nat) (X Y : List Int) (w : World) (hA : Ints w w.heap.size A la X) (hB : Ints w w.heap.size B lb Y) (hA' : Ints w w.heap.size A' la X) (hB' : Ints w w.heap.size B' lb Y)
    (hla : la ≤ 9223372036854775807) (hlb : lb ≤ 9223372036854775807) :
    Calls Try.prog 71 #[.agg #[.int .i64 n, .int .i64 o, .slice A la ca, .slice B lb cb], .agg #[.int .i64 n, .int .i64 o, .slice A' la ca', .slice B' lb cb']] w fun e w' => e = .returned (.bool true) ∧ Below w.heap.size w w' := by
  have HB0 : Below w.heap.size w ((w.alloc (.cells #[.int .i64 n, .int .i64 o, .slice A la ca, .slice B lb cb] 25)).alloc (.cells #[.int .i64 n, .int .i64 o, .slice A' la ca', .slice B' lb cb'] 25)) := ((Below.refl _ _).alloc (Nat.le_refl _) _).alloc (by simp) _
  have H1 := Lib.hid (hA.next HB0)
  have H2 := Lib.hid (hB.next HB0)
  have H3 := Lib.hid (hA'.next HB0)
  have H4 := Lib.hid (hB'.next HB0)
  clear hA hB hA' hB' HB0
  go_enter Try.func71, Try.ntmps71
  go_wp2_with (fail)
  obtain ⟨W, hW⟩ : ∃ W, (w.alloc (.cells #[.int .i64 n, .int .i64 o, .slice A la ca, .slice B lb cb] 25)).alloc (.cells #[.int .i64 n, .int .i64 o, .slice A' la ca', .slice B' lb cb'] 25) = W := ⟨_, rfl⟩
  have k0 : Blk W w.heap.size 25 #[.int .i64 n, .int .i64 o, .slice A la ca, .slice B lb cb] := by
    subst hW; exact (Blk.new w _ _).alloc _
  have k1 : Blk W (w.heap.size + 1) 25 #[.int .i64 n, .int .i64 o, .slice A' la ca', .slice B' lb cb'] := by
    subst hW; simpa using Blk.new (w.alloc (.cells #[.int .i64 n, .int .i64 o, .slice A la ca, .slice B lb cb] 25)) 25 #[.int .i64 n, .int .i64 o, .slice A' la ca', .slice B' lb cb']
  have b0 : Below w.heap.size w W := by
    subst hW; exact ((Below.refl _ _).alloc (Nat.le_refl _) _).alloc (by simp) _
  rw [hW] at H1 H2 H3 H4 ⊢
  clear hW
  have hs0 := k1.lt
  have K0 := Lib.hid k0
  have K1 := Lib.hid k1
  have B0 := Lib.hid b0
  clear k0 k1 b0
  refine (eqIntS_same A A' la ca ca' X W _ _ H1.out H3.out hla).mono ?_
  rintro e w1 ⟨rfl, hb1⟩
  have c0 := (K0.out.below hb1 (by omega)).cell 3
  have c1 := (K1.out.below hb1 (by omega)).cell 3
  simp at c0 c1
  have hs1 := hb1.size
  have B1 := Lib.hid hb1
  clear hb1
  go_wp2_with (fail)
  refine (eqIntS_same B B' lb cb cb' Y w1 _ _ (H2.out.next B1.out) (H4.out.next B1.out) hlb).mono ?_
  rintro e w2 ⟨rfl, hb2⟩
  have B2 := Lib.hid hb2
  clear hb2
  go_wp2
  go_ret
  exact ⟨rfl, B0.out.trans ((B1.out.mono (by omega)).trans (B2.out.mono (by omega)))⟩

end Go.Proofs.Ytpdonhoeimenjaa
