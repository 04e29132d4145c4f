
/- The contract of RingValid. -/
import Derived.Test.YtpdonhoeimenjaaA5
namespace Go.Proofs.Ytpdonhoeimenjaa
open Go.RowKit

/-- A list of numbers as a table. -/
def tabOf (xs : List Int) : Nat → Nat := fun k => (xs[k]?.getD 0).toNat
theorem fitsB_iff {n o : Int} {S P : List Int} : fitsB n o S P = true ↔
    1 ≤ n ∧ n ≤ 16 ∧ (0 ≤ o ∧ o < n) ∧ (S.length : Int) = n * n ∧ (P.length : Int) = n * n ∧ (∀ k, k < S.length → 0 ≤ S[k]?.getD 0 ∧ S[k]?.getD 0 < n) ∧ (∀ k, k < P.length → 0 ≤ P[k]?.getD 0 ∧ P[k]?.getD 0 < n) := by
  simp only [fitsB, eq4, inB, allB, Bool.and_eq_true, decide_eq_true_eq, beq_iff_eq]
  constructor
  · rintro ⟨h1, h2, h3, ⟨_, _, h4, h5⟩, h6, h7⟩; exact ⟨h1, h2, h3, h4, h5, h6, h7⟩
  · rintro ⟨h1, h2, h3, h4, h5, h6, h7⟩; exact ⟨h1, h2, h3, ⟨trivial, trivial, h4, h5⟩, h6, h7⟩
/-- What fits has a size that is a number of elements, One, and tables. -/
theorem fits_data {n o : Int} {S P : List Int} (h : fitsB n o S P = true) : ∃ m e : Nat, n = m ∧ o = e ∧ 1 ≤ m ∧ m ≤ 16 ∧ e < m ∧ S.length = m * m ∧ P.length = m * m ∧
    (∀ k, k < m * m → S[k]?.getD 0 = (tabOf S k : Int) ∧ tabOf S k < m) ∧ (∀ k, k < m * m → P[k]?.getD 0 = (tabOf P k : Int) ∧ tabOf P k < m) := by
  obtain ⟨h1, h2, h3, h4, h5, h6, h7⟩ := fitsB_iff.1 h
  obtain ⟨m, rfl⟩ := Int.eq_ofNat_of_zero_le (show 0 ≤ n by omega)
  obtain ⟨e, rfl⟩ := Int.eq_ofNat_of_zero_le h3.1
  have e1 : S.length = m * m := by have : ((S.length : Nat) : Int) = ((m * m : Nat) : Int) := by rw [h4]; simp
                                   omega
  have e2 : P.length = m * m := by have : ((P.length : Nat) : Int) = ((m * m : Nat) : Int) := by rw [h5]; simp
                                   omega
  refine ⟨m, e, rfl, rfl, by omega, by omega, by omega, e1, e2, fun k hk => ?_, fun k hk => ?_⟩
  · have := h6 k (by omega)
    unfold tabOf; omega
  · have := h7 k (by omega)
    unfold tabOf; omega
theorem tab_of_ints {w : World} {B len m : Nat} {A : Option Addr} {xs : List Int} (h : Ints w B A len xs) (hm : 1 ≤ m) (hl : xs.length = m * m) (hx : ∀ k, k < m * m → xs[k]?.getD 0 = (tabOf xs k : Int) ∧ tabOf xs k < m) :
    ∃ b off, A = some ⟨b, off, none⟩ ∧ Tab w B b off m (tabOf xs) := by
  have hp : 0 < m * m := Nat.mul_pos hm hm
  obtain ⟨b, off, rfl, hb, hc⟩ := h.2 (by rw [← h.1, hl]; exact hp)
  refine ⟨b, off, rfl, hb, fun k hk => ?_⟩
  have h2 := hx k hk
  refine ⟨?_, h2.2⟩
  rw [← h2.1]
  rw [List.getElem?_eq_getElem (by omega)]
  exact hc k _ (List.getElem?_eq_getElem (by omega))

theorem Tab.next {w w' : World} {b off m : Nat} {T : Nat → Nat} (h : Tab w w.heap.size b off m T) (hb : Below w.heap.size w w') : Tab w' w'.heap.size b off m T := by
  have := h.below hb (Nat.le_refl _)
  exact ⟨Nat.lt_of_lt_of_le this.1 hb.size, this.2⟩
theorem Ints.next {w w' : World} {n : Nat} {A : Option Addr} {xs : List Int} (h : Ints w w.heap.size A n xs) (hb : Below w.heap.size w w') : Ints w' w'.heap.size A n xs := (h.below hb (Nat.le_refl _)).more hb.size

/-- The laws of a ring, of tables that fit. -/
noncomputable def lawsB (m e : Nat) (S P : Nat → Nat) : Bool := opB m S 0 && (opB m P e && (negB m S && distB m S P))
noncomputable def validB (n o : Int) (S P : List Int) : Bool := fitsB n o S P && lawsB n.toNat o.toNat (tabOf S) (tabOf P)

theorem operationHolds_zero (m : Nat) (o : Int) (A B : Option Addr) (la ca lb cb : Nat) (b off len cap : Nat) (T : Nat → Nat) (w : World) (hm : 1 ≤ m) (hm' : m ≤ 16) (hl : len = m * m) (hc : len ≤ cap) (hT : Tab w w.heap.size b off m T) :
    Calls Try.prog 76 #[.agg #[.int .i64 m, .int .i64 o, .slice A la ca, .slice B lb cb], .slice (some ⟨b, off, none⟩) len cap, .int .i64 0] w fun e' w' =>
      e' = .returned (.bool (opB m T 0)) ∧ Below w.heap.size w w' := by
  have := operationHolds_any m 0 o A B la ca lb cb b off len cap T w hm hm' hm hl hc hT
  exact this

set_option maxHeartbeats 1000000 in
theorem valid_no (n o : Int) (A B : Option Addr) (la ca lb cb : Nat) (S T : List Int) (w : World)
    (hS : Ints w w.heap.size A la S) (hT : Ints w w.heap.size B lb T) (hla : la ≤ 9223372036854775807) (hlb : lb ≤ 9223372036854775807) (hf : fitsB n o S T = false) :
    Calls Try.prog 16 #[.agg #[.int .i64 n, .int .i64 o, .slice A la ca, .slice B lb cb]] w fun e w' => e = .returned (.bool false) ∧ Below w.heap.size w w' := by
  have HS := Lib.hid ((hS.alloc (Nat.le_refl _) (.cells #[.int .i64 n, .int .i64 o, .slice A la ca, .slice B lb cb] 25)).more (Nat.le_succ _))
  have HT := Lib.hid ((hT.alloc (Nat.le_refl _) (.cells #[.int .i64 n, .int .i64 o, .slice A la ca, .slice B lb cb] 25)).more (Nat.le_succ _))
  clear hS hT
  go_enter Try.func16, Try.ntmps16
  go_wp2_with (go_at_call 75; refine (fits_any _ _ _ _ _ _ _ _ S T _ (by simpa using HS.out) (by simpa using HT.out) hla hlb).mono ?_; rintro e w1 ⟨rfl, hb1⟩)
  go_ret
  exact ⟨rfl, ((Below.refl _ _).alloc (Nat.le_refl _) _).trans (hb1.mono (by simp))⟩

set_option maxHeartbeats 2000000 in
theorem valid_laws (m e : Nat) (b1 off1 la ca b2 off2 lb cb : Nat) (S T : List Int) (w : World) (hm : 1 ≤ m) (hm' : m ≤ 16) (he : e < m) (hla : la = m * m) (hlb : lb = m * m) (hca : la ≤ ca) (hcb : lb ≤ cb)
    (hS : Ints w w.heap.size (some ⟨b1, off1, none⟩) la S) (hT : Ints w w.heap.size (some ⟨b2, off2, none⟩) lb T) (hf : fitsB m e S T = true)
    (tS : Tab w w.heap.size b1 off1 m (tabOf S)) (tT : Tab w w.heap.size b2 off2 m (tabOf T)) :
    Calls Try.prog 16 #[.agg #[.int .i64 m, .int .i64 e, .slice (some ⟨b1, off1, none⟩) la ca, .slice (some ⟨b2, off2, none⟩) lb cb]] w fun e' w' =>
      e' = .returned (.bool (lawsB m e (tabOf S) (tabOf T))) ∧ Below w.heap.size w w' := by
  have hq : m * m ≤ 256 := Nat.mul_le_mul hm' hm'
  have hla' : la ≤ 9223372036854775807 := by omega
  have hlb' : lb ≤ 9223372036854775807 := by omega
  have HS := Lib.hid hS
  have HT := Lib.hid hT
  have TS := Lib.hid tS
  have TT := Lib.hid tT
  have LA := Lib.hid hla
  have LB := Lib.hid hlb
  clear hS hT tS tT hla hlb
  obtain ⟨c0, c1, c2, c3, hs⟩ := box4_new w (.int .i64 m) (.int .i64 e) (.slice (some ⟨b1, off1, none⟩) la ca) (.slice (some ⟨b2, off2, none⟩) lb cb) 25
  obtain ⟨W, hW⟩ : ∃ W, w.alloc (.cells #[.int .i64 m, .int .i64 e, .slice (some ⟨b1, off1, none⟩) la ca, .slice (some ⟨b2, off2, none⟩) lb cb] 25) = W := ⟨_, rfl⟩
  have HB := Lib.hid (show Below w.heap.size w W by subst hW; exact (Below.refl w.heap.size w).alloc (Nat.le_refl _) _)
  rw [hW] at c0 c1 c2 c3 hs
  have HW := Lib.hid hW
  clear hW
  have H0S := Lib.hid (HS.out.next HB.out)
  have H0T := Lib.hid (HT.out.next HB.out)
  unfold lawsB
  cases q1 : opB m (tabOf S) 0
  · go_enter Try.func16, Try.ntmps16
    go_wp2_with (fail)
    rw [HW.out]
    go_wp2_with (first
        | (go_at_call 75; refine (fits_any _ _ _ _ _ _ _ _ S T _ H0S.out H0T.out hla' hlb').mono ?_; rintro e1 w1 ⟨rfl, hb1⟩; obtain ⟨d0, d1, d2, d3, hs1⟩ := box4_next hb1 hs c0 c1 c2 c3; have X1 := Lib.hid (HB.out.trans (hb1.mono (by omega))); clear hb1)
        | (go_at_call 76; ((with_reducible refine (operationHolds_zero _ _ _ _ _ _ _ _ b1 off1 la ca (tabOf S) _ hm hm' LA.out hca (TS.out.next X1.out)).mono ?_); rintro e2 w2 ⟨rfl, hb2⟩; obtain ⟨f0, f1, f2, f3, hs2⟩ := box4_next hb2 (by omega) d0 d1 d2 d3; have X2 := Lib.hid (X1.out.trans (hb2.mono (by omega))); clear hb2))
        | (go_at_call 76; ((with_reducible refine (operationHolds_any _ e _ _ _ _ _ _ _ b2 off2 lb cb (tabOf T) _ hm hm' he LB.out hcb (TT.out.next X2.out)).mono ?_); rintro e3 w3 ⟨rfl, hb3⟩; obtain ⟨g0, g1, g2, g3, hs3⟩ := box4_next hb3 (by omega) f0 f1 f2 f3; have X3 := Lib.hid (X2.out.trans (hb3.mono (by omega))); clear hb3))
        | (go_at_call 77; refine (negativesExist_any _ _ _ _ _ b1 off1 la ca (tabOf S) _ hm hm' LA.out hca (TS.out.next X3.out)).mono ?_; rintro e4 w4 ⟨rfl, hb4⟩; obtain ⟨k0, k1, k2, k3, hs4⟩ := box4_next hb4 (by omega) g0 g1 g2 g3; have X4 := Lib.hid (X3.out.trans (hb4.mono (by omega))); clear hb4)
        | (go_at_call 78; refine (distributes_any _ _ b1 off1 la ca b2 off2 lb cb (tabOf S) (tabOf T) _ hm hm' LA.out LB.out hca hcb (TS.out.next X4.out) (TT.out.next X4.out)).mono ?_; rintro e5 w5 ⟨rfl, hb5⟩; have X5 := Lib.hid (X4.out.trans (hb5.mono (by omega))); clear hb5))
    go_ret
    exact ⟨rfl, X2.out⟩
  cases q2 : opB m (tabOf T) e
  · go_enter Try.func16, Try.ntmps16
    go_wp2_with (fail)
    rw [HW.out]
    go_wp2_with (first
        | (go_at_call 75; refine (fits_any _ _ _ _ _ _ _ _ S T _ H0S.out H0T.out hla' hlb').mono ?_; rintro e1 w1 ⟨rfl, hb1⟩; obtain ⟨d0, d1, d2, d3, hs1⟩ := box4_next hb1 hs c0 c1 c2 c3; have X1 := Lib.hid (HB.out.trans (hb1.mono (by omega))); clear hb1)
        | (go_at_call 76; ((with_reducible refine (operationHolds_zero _ _ _ _ _ _ _ _ b1 off1 la ca (tabOf S) _ hm hm' LA.out hca (TS.out.next X1.out)).mono ?_); rintro e2 w2 ⟨rfl, hb2⟩; obtain ⟨f0, f1, f2, f3, hs2⟩ := box4_next hb2 (by omega) d0 d1 d2 d3; have X2 := Lib.hid (X1.out.trans (hb2.mono (by omega))); clear hb2))
        | (go_at_call 76; ((with_reducible refine (operationHolds_any _ e _ _ _ _ _ _ _ b2 off2 lb cb (tabOf T) _ hm hm' he LB.out hcb (TT.out.next X2.out)).mono ?_); rintro e3 w3 ⟨rfl, hb3⟩; obtain ⟨g0, g1, g2, g3, hs3⟩ := box4_next hb3 (by omega) f0 f1 f2 f3; have X3 := Lib.hid (X2.out.trans (hb3.mono (by omega))); clear hb3))
        | (go_at_call 77; refine (negativesExist_any _ _ _ _ _ b1 off1 la ca (tabOf S) _ hm hm' LA.out hca (TS.out.next X3.out)).mono ?_; rintro e4 w4 ⟨rfl, hb4⟩; obtain ⟨k0, k1, k2, k3, hs4⟩ := box4_next hb4 (by omega) g0 g1 g2 g3; have X4 := Lib.hid (X3.out.trans (hb4.mono (by omega))); clear hb4)
        | (go_at_call 78; refine (distributes_any _ _ b1 off1 la ca b2 off2 lb cb (tabOf S) (tabOf T) _ hm hm' LA.out LB.out hca hcb (TS.out.next X4.out) (TT.out.next X4.out)).mono ?_; rintro e5 w5 ⟨rfl, hb5⟩; have X5 := Lib.hid (X4.out.trans (hb5.mono (by omega))); clear hb5))
    go_ret
    exact ⟨rfl, X3.out⟩
  cases q3 : negB m (tabOf S)
  · go_enter Try.func16, Try.ntmps16
    go_wp2_with (fail)
    rw [HW.out]
    go_wp2_with (first
        | (go_at_call 75; refine (fits_any _ _ _ _ _ _ _ _ S T _ H0S.out H0T.out hla' hlb').mono ?_; rintro e1 w1 ⟨rfl, hb1⟩; obtain ⟨d0, d1, d2, d3, hs1⟩ := box4_next hb1 hs c0 c1 c2 c3; have X1 := Lib.hid (HB.out.trans (hb1.mono (by omega))); clear hb1)
        | (go_at_call 76; ((with_reducible refine (operationHolds_zero _ _ _ _ _ _ _ _ b1 off1 la ca (tabOf S) _ hm hm' LA.out hca (TS.out.next X1.out)).mono ?_); rintro e2 w2 ⟨rfl, hb2⟩; obtain ⟨f0, f1, f2, f3, hs2⟩ := box4_next hb2 (by omega) d0 d1 d2 d3; have X2 := Lib.hid (X1.out.trans (hb2.mono (by omega))); clear hb2))
        | (go_at_call 76; ((with_reducible refine (operationHolds_any _ e _ _ _ _ _ _ _ b2 off2 lb cb (tabOf T) _ hm hm' he LB.out hcb (TT.out.next X2.out)).mono ?_); rintro e3 w3 ⟨rfl, hb3⟩; obtain ⟨g0, g1, g2, g3, hs3⟩ := box4_next hb3 (by omega) f0 f1 f2 f3; have X3 := Lib.hid (X2.out.trans (hb3.mono (by omega))); clear hb3))
        | (go_at_call 77; refine (negativesExist_any _ _ _ _ _ b1 off1 la ca (tabOf S) _ hm hm' LA.out hca (TS.out.next X3.out)).mono ?_; rintro e4 w4 ⟨rfl, hb4⟩; obtain ⟨k0, k1, k2, k3, hs4⟩ := box4_next hb4 (by omega) g0 g1 g2 g3; have X4 := Lib.hid (X3.out.trans (hb4.mono (by omega))); clear hb4)
        | (go_at_call 78; refine (distributes_any _ _ b1 off1 la ca b2 off2 lb cb (tabOf S) (tabOf T) _ hm hm' LA.out LB.out hca hcb (TS.out.next X4.out) (TT.out.next X4.out)).mono ?_; rintro e5 w5 ⟨rfl, hb5⟩; have X5 := Lib.hid (X4.out.trans (hb5.mono (by omega))); clear hb5))
    go_ret
    exact ⟨rfl, X4.out⟩
  · go_enter Try.func16, Try.ntmps16
    go_wp2_with (fail)
    rw [HW.out]
    go_wp2_with (first
        | (go_at_call 75; refine (fits_any _ _ _ _ _ _ _ _ S T _ H0S.out H0T.out hla' hlb').mono ?_; rintro e1 w1 ⟨rfl, hb1⟩; obtain ⟨d0, d1, d2, d3, hs1⟩ := box4_next hb1 hs c0 c1 c2 c3; have X1 := Lib.hid (HB.out.trans (hb1.mono (by omega))); clear hb1)
        | (go_at_call 76; ((with_reducible refine (operationHolds_zero _ _ _ _ _ _ _ _ b1 off1 la ca (tabOf S) _ hm hm' LA.out hca (TS.out.next X1.out)).mono ?_); rintro e2 w2 ⟨rfl, hb2⟩; obtain ⟨f0, f1, f2, f3, hs2⟩ := box4_next hb2 (by omega) d0 d1 d2 d3; have X2 := Lib.hid (X1.out.trans (hb2.mono (by omega))); clear hb2))
        | (go_at_call 76; ((with_reducible refine (operationHolds_any _ e _ _ _ _ _ _ _ b2 off2 lb cb (tabOf T) _ hm hm' he LB.out hcb (TT.out.next X2.out)).mono ?_); rintro e3 w3 ⟨rfl, hb3⟩; obtain ⟨g0, g1, g2, g3, hs3⟩ := box4_next hb3 (by omega) f0 f1 f2 f3; have X3 := Lib.hid (X2.out.trans (hb3.mono (by omega))); clear hb3))
        | (go_at_call 77; refine (negativesExist_any _ _ _ _ _ b1 off1 la ca (tabOf S) _ hm hm' LA.out hca (TS.out.next X3.out)).mono ?_; rintro e4 w4 ⟨rfl, hb4⟩; obtain ⟨k0, k1, k2, k3, hs4⟩ := box4_next hb4 (by omega) g0 g1 g2 g3; have X4 := Lib.hid (X3.out.trans (hb4.mono (by omega))); clear hb4)
        | (go_at_call 78; refine (distributes_any _ _ b1 off1 la ca b2 off2 lb cb (tabOf S) (tabOf T) _ hm hm' LA.out LB.out hca hcb (TS.out.next X4.out) (TT.out.next X4.out)).mono ?_; rintro e5 w5 ⟨rfl, hb5⟩; have X5 := Lib.hid (X4.out.trans (hb5.mono (by omega))); clear hb5))
    go_ret
    exact ⟨rfl, X5.out⟩

/-- RingValid tells whether tables are a ring. -/
theorem valid_any (n o : Int) (A B : Option Addr) (la ca lb cb : Nat) (S T : List Int) (w : World)
    (hS : Ints w w.heap.size A la S) (hT : Ints w w.heap.size B lb T) (hla : la ≤ 9223372036854775807) (hlb : lb ≤ 9223372036854775807) (hca : la ≤ ca) (hcb : lb ≤ cb) :
    Calls Try.prog 16 #[.agg #[.int .i64 n, .int .i64 o, .slice A la ca, .slice B lb cb]] w fun e w' => e = .returned (.bool (validB n o S T)) ∧ Below w.heap.size w w' := by
  unfold validB
  cases hf : fitsB n o S T
  · exact valid_no _ _ _ _ _ _ _ _ _ _ _ hS hT hla hlb hf
  · obtain ⟨m, e, rfl, rfl, hm, hm', he, h1, h2, h3, h4⟩ := fits_data hf
    obtain ⟨b1, off1, rfl, tS⟩ := tab_of_ints hS hm h1 h3
    obtain ⟨b2, off2, rfl, tT⟩ := tab_of_ints hT hm h2 h4
    exact valid_laws m e _ _ _ _ _ _ _ _ S T w hm hm' he (by rw [← hS.1, h1]) (by rw [← hT.1, h2]) hca hcb hS hT hf tS tT

end Go.Proofs.Ytpdonhoeimenjaa
