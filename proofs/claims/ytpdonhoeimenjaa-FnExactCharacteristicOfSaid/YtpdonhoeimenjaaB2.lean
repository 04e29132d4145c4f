
/- The reading side's RingValid: the same Bool as the program's. -/
import Derived.Test.YtpdonhoeimenjaaB1
namespace Go.Proofs.Ytpdonhoeimenjaa
open Go.RowKit

theorem laws_iff {m e : Nat} {S P : Nat → Nat} : lawsB m e S P = true ↔ OpLaw m S 0 ∧ OpLaw m P e ∧ NegLaw m S ∧ DistLaw m S P := by
  unfold lawsB opB negB distB
  simp only [Bool.and_eq_true, propB_iff]
theorem laws2_iff {m e : Nat} {S P : Nat → Nat} : laws2B m e S P = true ↔ PairTo m e S P m ∧ TripTo m S P (m * m * m) := by
  unfold laws2B pairB tripB
  simp only [Bool.and_eq_true, propB_iff]
theorem neg_hit {m : Nat} {S : Nat → Nat} {a : Nat} : (0 : Int) ∈ rowL m S a ↔ hit m S a m = true := by
  have := rowL_mem (m := m) (T := S) (a := a) (v := 0)
  unfold hit
  rw [decide_eq_true_eq]
  exact this
theorem laws_same {m e : Nat} {S P : Nat → Nat} : laws2B m e S P = lawsB m e S P := by
  rw [Bool.eq_iff_iff, laws_iff, laws2_iff]
  constructor
  · rintro ⟨h1, h2⟩
    refine ⟨fun a ha => ⟨(h1 a ha).2.2.1, fun b hb => ⟨((h1 a ha).1 b hb).1, fun c hc => (trip_law h2 ha hb hc).1⟩⟩,
      fun a ha => ⟨(h1 a ha).2.2.2, fun b hb => ⟨((h1 a ha).1 b hb).2, fun c hc => (trip_law h2 ha hb hc).2.1⟩⟩,
      fun a ha => neg_hit.2 (h1 a ha).2.1, fun a ha b hb c hc => (trip_law h2 ha hb hc).2.2⟩
  · rintro ⟨h1, h2, h3, h4⟩
    refine ⟨fun a ha => ⟨fun b hb => ⟨((h1 a ha).2 b hb).1, ((h2 a ha).2 b hb).1⟩, neg_hit.1 (h3 a ha), (h1 a ha).1, (h2 a ha).1⟩, fun j hj => ?_⟩
    obtain ⟨pa, pb, pc⟩ := parts_lt hj
    exact ⟨((h1 _ pa).2 _ pb).2 _ pc, ((h2 _ pa).2 _ pb).2 _ pc, h4 _ pa _ pb _ pc⟩

set_option maxRecDepth 100000 in
theorem spec_no (n o : Int) (A B : Option Addr) (la ca lb cb : Nat) (X Y : List Int) (w : World)
    (hX : Ints w w.heap.size A la X) (hY : Ints w w.heap.size B lb Y) (hla : la ≤ 9223372036854775807) (hlb : lb ≤ 9223372036854775807) (hf : fitsB n o X Y = false) :
    Calls Try.prog 17 #[.agg #[.int .i64 n, .int .i64 o, .slice A la ca, .slice B lb cb]] w fun e w' => e = .returned (.bool false) ∧ Below w.heap.size w w' := by
  have HX := Lib.hid ((hX.alloc (Nat.le_refl _) (.cells #[.int .i64 n, .int .i64 o, .slice A la ca, .slice B lb cb] 25)).more (Nat.le_succ _))
  have HY := Lib.hid ((hY.alloc (Nat.le_refl _) (.cells #[.int .i64 n, .int .i64 o, .slice A la ca, .slice B lb cb] 25)).more (Nat.le_succ _))
  clear hX hY
  go_enter Try.func17, Try.ntmps17
  go_wp2_with (go_at_call 79; refine (l1Shape_any _ _ _ _ _ _ _ _ X Y _ (by simpa using HX.out) (by simpa using HY.out) hla hlb).mono ?_; rintro e w1 ⟨rfl, hb1⟩)
  go_ret
  exact ⟨rfl, ((Below.refl _ _).alloc (Nat.le_refl _) _).trans (hb1.mono (by simp))⟩

/-- The reading side's RingValid. -/
theorem specValid_any (n o : Int) (A B : Option Addr) (la ca lb cb : Nat) (X Y : List Int) (w : World)
    (hX : Ints w w.heap.size A la X) (hY : Ints w w.heap.size B lb Y) (hla : la ≤ 9223372036854775807) (hlb : lb ≤ 9223372036854775807) (hca : la ≤ ca) (hcb : lb ≤ cb) :
    Calls Try.prog 17 #[.agg #[.int .i64 n, .int .i64 o, .slice A la ca, .slice B lb cb]] w fun e w' => e = .returned (.bool (validB n o X Y)) ∧ Below w.heap.size w w' := by
  unfold validB
  cases hf : fitsB n o X Y
  · exact spec_no _ _ _ _ _ _ _ _ _ _ _ hX hY hla hlb hf
  · obtain ⟨m, e, rfl, rfl, hm, hm', he, h1, h2, h3, h4⟩ := fits_data hf
    obtain ⟨b1, off1, rfl, tS⟩ := tab_of_ints hX hm h1 h3
    obtain ⟨b2, off2, rfl, tT⟩ := tab_of_ints hY hm h2 h4
    have hr : RingAt w m e b1 off1 la ca b2 off2 lb cb (tabOf X) (tabOf Y) := ⟨hm, hm', he, by rw [← hX.1, h1], by rw [← hY.1, h2], hca, hcb, tS, tT⟩
    have := trips_round m e _ _ _ _ _ _ _ _ _ _ w hr X Y hX hY hf
    rw [laws_same] at this
    exact this

/-- What a valid ring is. -/
theorem valid_data {n o : Int} {X Y : List Int} {w : World} {A B : Option Addr} {la ca lb cb : Nat} (h : validB n o X Y = true) (hX : Ints w w.heap.size A la X) (hY : Ints w w.heap.size B lb Y) (hca : la ≤ ca) (hcb : lb ≤ cb) :
    ∃ m e b1 o1 b2 o2 : Nat, n = m ∧ o = e ∧ A = some ⟨b1, o1, none⟩ ∧ B = some ⟨b2, o2, none⟩ ∧ RingAt w m e b1 o1 la ca b2 o2 lb cb (tabOf X) (tabOf Y) ∧
      (OpLaw m (tabOf X) 0 ∧ OpLaw m (tabOf Y) e ∧ NegLaw m (tabOf X) ∧ DistLaw m (tabOf X) (tabOf Y)) ∧ X.length = m * m ∧ Y.length = m * m ∧
      (∀ k, k < m * m → X[k]?.getD 0 = (tabOf X k : Int) ∧ tabOf X k < m) ∧ (∀ k, k < m * m → Y[k]?.getD 0 = (tabOf Y k : Int) ∧ tabOf Y k < m) := by
  unfold validB at h
  rw [Bool.and_eq_true] at h
  obtain ⟨m, e, rfl, rfl, hm, hm', he, h1, h2, h3, h4⟩ := fits_data h.1
  obtain ⟨b1, off1, rfl, tS⟩ := tab_of_ints hX hm h1 h3
  obtain ⟨b2, off2, rfl, tT⟩ := tab_of_ints hY hm h2 h4
  exact ⟨m, e, b1, off1, b2, off2, rfl, rfl, rfl, rfl, ⟨hm, hm', he, by rw [← hX.1, h1], by rw [← hY.1, h2], hca, hcb, tS, tT⟩, laws_iff.1 h.2, h1, h2, h3, h4⟩

end Go.Proofs.Ytpdonhoeimenjaa
