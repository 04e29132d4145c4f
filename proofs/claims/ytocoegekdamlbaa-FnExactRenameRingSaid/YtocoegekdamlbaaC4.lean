
/- Memory that a call hands out: marked and held. -/
import Derived.Test.YtocoegekdamlbaaB8
namespace Go.Proofs.Ytocoegekdamlbaa
open Go.RowKit

/-- A slice of ints whose cells lie from block D on and may be written. -/
def Own (w : World) (D : Nat) (A : Option Addr) (n : Nat) (xs : List Int) : Prop :=
  xs.length = n ∧ (0 < n → ∃ g off, A = some ⟨g, off, none⟩ ∧ D ≤ g ∧ g < w.heap.size ∧ ∀ k, k < n → w.cell? ⟨g, off + k, none⟩ = some (.int .i64 (xs[k]?.getD 0)) ∧ w.frozen? ⟨g, off + k, none⟩ = false)
/-- A place lies in a slice. -/
def InS (A : Option Addr) (n : Nat) (p : Addr) : Prop := ∃ g off k, A = some ⟨g, off, none⟩ ∧ k < n ∧ p = ⟨g, off + k, none⟩
/-- Two slices share no place. -/
def Apart (A : Option Addr) (n : Nat) (B : Option Addr) (m : Nat) : Prop := ∀ p, InS A n p → ¬ InS B m p
/-- Nothing has turned but the places of a slice. -/
def ButIn (w w' : World) (A : Option Addr) (n : Nat) : Prop := w'.heap.size = w.heap.size ∧ ∀ p, ¬ InS A n p → w'.cell? p = w.cell? p ∧ w'.frozen? p = w.frozen? p

theorem Own.ints {w : World} {D n : Nat} {A : Option Addr} {xs : List Int} (h : Own w D A n xs) : Ints w w.heap.size A n xs :=
  ⟨h.1, fun hn => by
    obtain ⟨g, off, e, _, hg, hc⟩ := h.2 hn
    refine ⟨g, off, e, hg, fun k x hx => ?_⟩
    have hk : k < n := by
      rcases Nat.lt_or_ge k n with h1 | h1
      · exact h1
      · rw [List.getElem?_eq_none (by have := h.1; omega)] at hx; cases hx
    rw [(hc k hk).1, hx]; rfl⟩
theorem Own.next {w w' : World} {D n : Nat} {A : Option Addr} {xs : List Int} (h : Own w D A n xs) (hb : Below w.heap.size w w') : Own w' D A n xs :=
  ⟨h.1, fun hn => by
    obtain ⟨g, off, e, hD, hg, hc⟩ := h.2 hn
    exact ⟨g, off, e, hD, Nat.lt_of_lt_of_le hg hb.size, fun k hk => ⟨(hb.cell hg).trans (hc k hk).1, (hb.frozen hg).trans (hc k hk).2⟩⟩⟩
theorem Own.kept {w w' : World} {D n m : Nat} {A B : Option Addr} {xs : List Int} (h : Own w D A n xs) (hb : ButIn w w' B m) (ha : Apart A n B m) : Own w' D A n xs :=
  ⟨h.1, fun hn => by
    obtain ⟨g, off, e, hD, hg, hc⟩ := h.2 hn
    refine ⟨g, off, e, hD, by rw [hb.1]; exact hg, fun k hk => ?_⟩
    have := hb.2 ⟨g, off + k, none⟩ (ha _ ⟨g, off, k, e, hk, rfl⟩)
    exact ⟨this.1.trans (hc k hk).1, this.2.trans (hc k hk).2⟩⟩
theorem own_of_row {w : World} {base g cap n : Nat} {xs : List Int} {T : TypeId} (h : w.ownsRow base T 1 (.slice (some ⟨g, 0, none⟩) n cap) n (xs.map (.int .i64))) (hn : xs.length = n) : Own w base (some ⟨g, 0, none⟩) n xs :=
  ⟨hn, fun h0 => ⟨g, 0, rfl, (h.lt g rfl).1, (h.lt g rfl).2, fun k hk => by
    refine ⟨?_, by rw [Nat.zero_add]; exact h.frozenAt k⟩
    rw [Nat.zero_add, h.cellAt k (by omega), List.getElem?_map, List.getElem?_eq_getElem (by omega)]; rfl⟩⟩
theorem Own.nil {w : World} {D : Nat} {A : Option Addr} : Own w D A 0 [] := ⟨rfl, fun h => absurd h (by omega)⟩

/-- A list whose head is marked with running numbers. -/
def markL (xs : List Int) (n : Nat) (b : Int) (k : Nat) : List Int := (List.range n).map fun j => if j < k then b + j else xs[j]?.getD 0
theorem markL_len {xs : List Int} {n : Nat} {b : Int} {k : Nat} : (markL xs n b k).length = n := by simp [markL]
theorem markL_get {xs : List Int} {n : Nat} {b : Int} {k j : Nat} (hj : j < n) : (markL xs n b k)[j]?.getD 0 = if j < k then b + j else xs[j]?.getD 0 := by
  unfold markL
  rw [List.getElem?_map, List.getElem?_range hj]; rfl

theorem mark_start {w : World} {D n : Nat} {A : Option Addr} {xs : List Int} {b : Int} (h : Own w D A n xs) : Own w D A n (markL xs n b 0) :=
  ⟨markL_len, fun hn => by
    obtain ⟨g, off, e, hD, hg, hc⟩ := h.2 hn
    exact ⟨g, off, e, hD, hg, fun k hk => by rw [markL_get hk, if_neg (by omega)]; exact hc k hk⟩⟩
theorem mark_step {w : World} {D n g off k : Nat} {xs : List Int} {b : Int} (h : Own w D (some ⟨g, off, none⟩) n (markL xs n b k)) (hk : k < n) :
    Own (w.setCell ⟨g, off + k, none⟩ (.int .i64 (b + k))) D (some ⟨g, off, none⟩) n (markL xs n b (k + 1)) :=
  ⟨markL_len, fun hn => by
    obtain ⟨g', off', e, hD, hg, hc⟩ := h.2 hn
    simp only [Option.some.injEq, Addr.mk.injEq, and_true] at e
    obtain ⟨rfl, rfl⟩ := e
    refine ⟨g, off, rfl, hD, by simpa using hg, fun j hj => ⟨?_, (World.frozen?_setCell _ _ _ _).trans (hc j hj).2⟩⟩
    rw [markL_get hj]
    by_cases e : j = k
    · subst e
      rw [if_pos (by omega)]
      exact World.cell?_setCell_same _ _ _ (hc j hj).1
    · rw [World.cell?_setCell_other _ _ _ _ (fun h => e (by injection h with _ h1 _; omega)), (hc j hj).1, markL_get hj]
      by_cases h1 : j < k
      · rw [if_pos h1, if_pos (by omega)]
      · rw [if_neg h1, if_neg (by omega)]⟩
theorem but_step {w w' : World} {n g off k : Nat} {u : Value} (h : ButIn w w' (some ⟨g, off, none⟩) n) (hk : k < n) : ButIn w (w'.setCell ⟨g, off + k, none⟩ u) (some ⟨g, off, none⟩) n :=
  ⟨by simpa using h.1, fun p hp => by
    have hne : (⟨g, off + k, none⟩ : Addr) ≠ p := fun e => hp ⟨g, off, k, rfl, hk, e.symm⟩
    exact ⟨(World.cell?_setCell_other _ _ _ _ hne).trans (h.2 p hp).1, (World.frozen?_setCell _ _ _ _).trans (h.2 p hp).2⟩⟩

set_option maxHeartbeats 1000000 in
theorem markIntS_any (A : Option Addr) (n cap : Nat) (xs : List Int) (b : Int) (w : World) (D : Nat) (hA : Own w D A n xs) (hn : n ≤ 1048576) (h0 : 0 ≤ b) (h1 : b ≤ 4194304) :
    Calls Try.prog 23 #[.slice A n cap, .int .i64 b] w fun e w' => e = .returned (.int .i64 (b + n)) ∧ Own w' D A n (markL xs n b n) ∧ ButIn w w' A n ∧ Below D w w' := by
  have HA := Lib.hid hA
  clear hA
  go_enter Try.func23, Try.ntmps23
  go_wp2
  go_loopw [1, 5] (fun s i wr => ∃ k : Nat, k ≤ n ∧ s = .int .i64 (b + k) ∧ i = .int .i64 k ∧ Own wr D A n (markL xs n b k) ∧ ButIn w wr A n ∧ Below D w wr) (fun _ i _ => n - (intOf i).toNat)
  case atStart => exact ⟨0, Nat.zero_le _, by simp, rfl, mark_start HA.out, ⟨rfl, fun p _ => ⟨rfl, rfl⟩⟩, Below.refl _ _⟩
  case round =>
    obtain ⟨k, hk, rfl, rfl, hown, hbut, hbel⟩ := hrel
    have BU := Lib.hid hbut
    have BE := Lib.hid hbel
    have OW := Lib.hid hown
    clear hbut hbel hown
    by_cases hlt : k < n
    · obtain ⟨g, off, rfl, hD, hg, hc⟩ := OW.out.2 (by omega)
      obtain ⟨hck, hfk⟩ := hc k hlt
      clear hc
      go_wp2
      go_roundw
      case rel => exact ⟨k + 1, by omega, by go_num, by go_num, mark_step OW.out hlt, but_step BU.out hlt, BE.out.setCell hD _⟩
      case measure => simp [intOf]; omega
    · have hkn : k = n := by omega
      subst hkn
      go_wp2
      go_ret
      exact ⟨rfl, OW.out, BU.out, BE.out⟩

/-- A slice that holds its marks. -/
def HeldTo (xs : List Int) (n : Nat) (b : Int) : Prop := ∀ j, j < n → xs[j]?.getD 0 = b + j
theorem held_mark {xs : List Int} {n : Nat} {b : Int} : HeldTo (markL xs n b n) n b := fun j hj => by rw [markL_get hj, if_pos hj]

set_option maxHeartbeats 1000000 in
theorem heldIntS_any (A : Option Addr) (n cap : Nat) (xs : List Int) (b : Int) (w : World) (D : Nat) (hA : Ints w D A n xs) (hh : HeldTo xs n b) (hn : n ≤ 1048576) (h0 : 0 ≤ b) (h1 : b ≤ 4194304) :
    Calls Try.prog 24 #[.slice A n cap, .int .i64 b] w fun e w' => e = .returned (.int .i64 (b + n)) ∧ w = w' := by
  have HA := Lib.hid hA
  have HH := Lib.hid hh
  clear hA hh
  go_enter Try.func24, Try.ntmps24
  go_wp2
  go_loop [1, 5] (fun s i => ∃ k : Nat, k ≤ n ∧ s = .int .i64 (b + k) ∧ i = .int .i64 k) (fun _ i => n - (intOf i).toNat)
  case atStart => exact ⟨0, Nat.zero_le _, by simp, rfl⟩
  case round =>
    obtain ⟨k, hk, rfl, rfl⟩ := hrel
    by_cases hlt : k < n
    · obtain ⟨g, off, rfl, hg, hc⟩ := HA.out.at_ hlt
      rw [HH.out k hlt] at hc
      have tt : (b + (k : Int) != b + (k : Int)) = false := by rw [bne_eq_false_iff_eq]
      go_wp2
      go_round
      case rel => exact ⟨k + 1, by omega, by go_num, by go_num⟩
      case measure => simp [intOf]; omega
    · have hkn : k = n := by omega
      subst hkn
      go_wp2
      go_ret
      exact ⟨rfl, rfl⟩

theorem own_not_new {w : World} {D n : Nat} {A : Option Addr} {xs : List Int} (h : Own w D A n xs) : ∀ k, ¬ InS A n ⟨w.heap.size, k, none⟩ := by
  rintro k ⟨g, off, j, e, hj, hp⟩
  obtain ⟨g', off', e', _, hg, _⟩ := h.2 (by omega)
  rw [e] at e'
  simp only [Option.some.injEq, Addr.mk.injEq, and_true] at e' hp
  omega

set_option maxHeartbeats 2000000 in
theorem markRing_any (n o : Int) (A B : Option Addr) (la ca lb cb : Nat) (X Y : List Int) (b : Int) (w : World) (D : Nat) (hX : Own w D A la X) (hY : Own w D B lb Y) (ha : Apart A la B lb) (hD : D ≤ w.heap.size) (hla : la ≤ 1048576) (hlb : lb ≤ 1048576) (h0 : 0 ≤ b) (h1 : b ≤ 1048576) :
    Calls Try.prog 22 #[.agg #[.int .i64 n, .int .i64 o, .slice A la ca, .slice B lb cb], .int .i64 b] w fun e w' => e = .returned (.int .i64 (b + la + lb)) ∧ Own w' D A la (markL X la b la) ∧ Own w' D B lb (markL Y lb (b + la) lb) ∧
      (∀ p : Addr, p.block < w.heap.size → ¬ InS A la p → ¬ InS B lb p → w'.cell? p = w.cell? p ∧ w'.frozen? p = w.frozen? p) ∧ Below D w w' := by
  have b0 : Below w.heap.size w (w.alloc (.cells #[.int .i64 n, .int .i64 o, .slice A la ca, .slice B lb cb] 28)) := (Below.refl _ _).alloc (Nat.le_refl _) _
  have OX := Lib.hid (hX.next b0)
  have OY := Lib.hid (hY.next b0)
  have AP := Lib.hid ha
  have AQ := Lib.hid (show Apart B lb A la from fun p h1 h2 => ha p h2 h1)
  have hbx := Lib.hid (Blk.new w 28 #[.int .i64 n, .int .i64 o, .slice A la ca, .slice B lb cb])
  have nx := Lib.hid (show ∀ k, ¬ InS A la ⟨w.heap.size, k, none⟩ from own_not_new hX)
  have ny := Lib.hid (show ∀ k, ¬ InS B lb ⟨w.heap.size, k, none⟩ from own_not_new hY)
  have B0 := Lib.hid b0
  clear hX hY ha b0
  go_enter Try.func22, Try.ntmps22
  go_wp2_with (fail)
  obtain ⟨W, hW⟩ : ∃ W, w.alloc (.cells #[.int .i64 n, .int .i64 o, .slice A la ca, .slice B lb cb] 28) = W := ⟨_, rfl⟩
  rw [hW] at OX OY hbx B0 ⊢
  have hsz : W.heap.size = w.heap.size + 1 := by subst hW; simp
  have HS := Lib.hid hsz
  clear hW hsz
  refine (markIntS_any A la ca X b W D OX.out hla h0 (by omega)).mono ?_
  rintro e1 w1 ⟨rfl, o1, bi1, bl1⟩
  have c3 := (bi1.2 ⟨w.heap.size, 3, none⟩ (nx.out 3)).1.trans (hbx.out.cell 3)
  have OX1 := Lib.hid o1
  have OY1 := Lib.hid (OY.out.kept bi1 AQ.out)
  have BI1 := Lib.hid bi1
  have BL1 := Lib.hid bl1
  simp at c3
  clear o1 bi1 bl1
  go_wp2_with (fail)
  refine (markIntS_any B lb cb Y (b + la) w1 D OY1.out hlb (by omega) (by omega)).mono ?_
  rintro e2 w2 ⟨rfl, o2, bi2, bl2⟩
  have OX2 := Lib.hid (OX1.out.kept bi2 AP.out)
  have OY2 := Lib.hid o2
  have BI2 := Lib.hid bi2
  have BL2 := Lib.hid bl2
  clear o2 bi2 bl2
  go_wp2
  go_ret
  refine ⟨rfl, OX2.out, OY2.out, fun p hp h3 h4 => ?_, ((B0.out.mono hD).trans BL1.out).trans BL2.out⟩
  have e1 := BI1.out.2 p h3
  have e2 := BI2.out.2 p h4
  exact ⟨e2.1.trans (e1.1.trans (B0.out.cell hp)), e2.2.trans (e1.2.trans (B0.out.frozen hp))⟩

set_option maxHeartbeats 2000000 in
theorem heldRing_any (n o : Int) (A B : Option Addr) (la ca lb cb : Nat) (X Y : List Int) (b : Int) (w : World) (hX : Ints w w.heap.size A la X) (hY : Ints w w.heap.size B lb Y) (h2 : HeldTo X la b) (h3 : HeldTo Y lb (b + la)) (hla : la ≤ 1048576) (hlb : lb ≤ 1048576) (h0 : 0 ≤ b) (h1 : b ≤ 1048576) :
    Calls Try.prog 27 #[.agg #[.int .i64 n, .int .i64 o, .slice A la ca, .slice B lb cb], .int .i64 b] w fun e w' => e = .returned (.int .i64 (b + la + lb)) ∧ Below w.heap.size w w' := by
  have b0 : Below w.heap.size w (w.alloc (.cells #[.int .i64 n, .int .i64 o, .slice A la ca, .slice B lb cb] 28)) := (Below.refl _ _).alloc (Nat.le_refl _) _
  have HX := Lib.hid (hX.next b0)
  have HY := Lib.hid (hY.next b0)
  have H2 := Lib.hid h2
  have H3 := Lib.hid h3
  clear hX hY h2 h3 b0
  go_enter Try.func27, Try.ntmps27
  go_wp2_with (first
    | (go_at_call 24; ((with_reducible refine (heldIntS_any A la ca X b _ _ HX.out H2.out hla h0 (by omega)).mono ?_); rintro e1 w1 ⟨rfl, rfl⟩))
    | (go_at_call 24; ((with_reducible refine (heldIntS_any B lb cb Y (b + la) _ _ HY.out H3.out hlb (by omega) (by omega)).mono ?_); rintro e1 w1 ⟨rfl, rfl⟩)))
  go_ret
  exact ⟨rfl, (Below.refl _ _).alloc (Nat.le_refl _) _⟩

end Go.Proofs.Ytocoegekdamlbaa
