/- Texts of this seat in one: BO. -/
import Derived.Test.YtlcpbdbdiahmjaaNN
import Derived.Test.YtlcpbdbdiahmjaaMH
import Derived.Test.YtlcpbdbdiahmjaaMG
import Derived.Test.YtlcpbdbdiahmjaaMF

/- FnPowers: plain facts, contracts over a ring that lies in a world, the draw. -/
namespace Go.Proofs.Ytlcpbdbdiahmjaa
open Go.RowKit Go.Shelf
set_option maxRecDepth 100000

section
variable {n o : Int} {A B : Option Addr} {la ca lb cb : Nat} {X Y : List Int} {w : World}
theorem c_uord (h : RIn w A la ca B lb cb X Y) (x : Int) (z : Int) (hz : uordV n o X Y x = z) : Calls Try.prog 29 #[.agg #[.int .i64 n, .int .i64 o, .slice A la ca, .slice B lb cb], .int .i64 x] w fun e' w' => e' = .returned (.int .i64 z) ∧ Below w.heap.size w w' := by
  subst hz
  exact uord_any n o A B la ca lb cb X Y x w h.hX h.hY h.hla h.hlb h.hca h.hcb
theorem c_sord (h : RIn w A la ca B lb cb X Y) (x : Int) (z : Int) (hz : ordV n o X Y x = z) : Calls Try.prog 26 #[.agg #[.int .i64 n, .int .i64 o, .slice A la ca, .slice B lb cb], .int .i64 x] w fun e' w' => e' = .returned (.int .i64 z) ∧ Below w.heap.size w w' := by
  subst hz
  exact sord_any n o A B la ca lb cb X Y x w h.hX h.hY h.hla h.hlb h.hca h.hcb
end

section
variable {m e : Nat} {X Y : List Int}
theorem v_inv (hv : validB m e X Y = true) {a c : Nat} (ha : a < m) (hc : c < m) (h : tabOf Y (a * m + c) = e) {x z : Int} (hx : x = a) (hz : z = c) : invV m e X Y x = z := by
  subst hx hz
  rw [invV_yes hv (inB_nat ha)]
  exact (rtab_of_valid hv).inv_eq ha hc h
theorem v_uord (hv : validB m e X Y = true) {a c d : Nat} (ha : a < m) (hc : c < m) (h : tabOf Y (a * m + c) = e) (hd : ordZ m (tabOf Y) e a = d) {x z : Int} (hx : x = a) (hz : z = d) : uordV m e X Y x = z := by
  subst hx hz hd
  refine uordV_yes ?_
  rw [v_inv hv ha hc h rfl rfl]
  omega
theorem idx_cases (xs : List Int) (v : Int) : idx xs v = -1 ∨ 0 ≤ idx xs v := by
  unfold idx
  split
  · right; omega
  · left; rfl
theorem inv_cases {n o a : Int} {X Y : List Int} : invV n o X Y a = -1 ∨ (validB n o X Y = true ∧ inB n a = true ∧ 0 ≤ invV n o X Y a) := by
  by_cases h : validB n o X Y = true ∧ inB n a = true
  · have e : invV n o X Y a = invN n.toNat (tabOf Y) o.toNat a.toNat := ifV_yes h
    rcases idx_cases (rowL n.toNat (tabOf Y) a.toNat) o.toNat with h1 | h1
    · exact .inl (e.trans h1)
    · exact .inr ⟨h.1, h.2, by rw [e]; exact h1⟩
  · exact .inl (invV_no h)
end
theorem frSame_is {A B : Option Addr} {n k ca cb : Nat} {xs ys : List Int} {w : World} (hA : Ints w w.heap.size A n xs) (hB : Ints w w.heap.size B k ys) (hn : n ≤ 1048570) (hk : k ≤ 1048570) (z : Bool) (hz : eqL xs ys = z) :
    Calls Try.prog 15 #[.slice A n ca, .slice B k cb] w fun e w' => e = .returned (.bool z) ∧ Below w.heap.size w w' := by
  subst hz
  exact frSame_any A B n k ca cb xs ys w _ _ hA hB (by omega) (by omega)
theorem SliceOut.as {D n : Nat} {w : World} {v : Value} {Z : List Int} (h : SliceOut D w v Z) (hn : Z.length = n) : ∃ A c, v = .slice A n c ∧ SliceOut D w (.slice A n c) Z := by
  obtain ⟨A, l, c, e, h1, h2, h3⟩ := h
  have e2 : l = n := by rw [← hn, h1.1]
  subst e e2
  exact ⟨A, c, rfl, A, l, c, rfl, h1, h2, h3⟩
theorem eqL_self {xs : List Int} : eqL xs xs = true := eqL_true rfl fun _ _ => rfl


section
variable {m e a : Nat} {S P : Nat → Nat}
theorem pw_stop (hl : ∀ i, seqZ m P e a i < m) : ∀ f k, Dis m P e a k → k + f = m + 1 → Dis m P e a (pwK m P e a f k) ∧ hasB (pwS m P e a (pwK m P e a f k)) ((seqZ m P e a (pwK m P e a f k) : Nat) : Int) = true
  | 0, k => fun h e1 => by have := dis_le hl h; omega
  | f + 1, k => fun h e1 => by
    cases hq : hasB (pwS m P e a k) ((seqZ m P e a k : Nat) : Int)
    · rw [pwK_no hq]
      exact pw_stop hl f (k + 1) (dis_succ h hq) (by omega)
    · rw [pwK_yes hq]
      exact ⟨h, hq⟩
/-- How many powers there are; the next one is one of them, One just for a unit, whose order is their number. -/
theorem RTab.pw_facts (R : RTab m S P e) (ha : a < m) : ∃ K, pwK m P e a (m + 1) 0 = K ∧ 1 ≤ K ∧ K ≤ m ∧ hasB (pwS m P e a K) ((seqZ m P e a K : Nat) : Int) = true ∧ (UnitAt m P e a → ordZ m P e a = K ∧ seqZ m P e a K = e) ∧ (¬ UnitAt m P e a → seqZ m P e a K ≠ e) := by
  obtain ⟨h1, h2⟩ := pw_stop (P := P) (e := e) (a := a) (fun i => R.pw_lt ha i) (m + 1) 0 (fun i j _ hj => absurd hj (by omega)) (by omega)
  generalize pwK m P e a (m + 1) 0 = K at h1 h2
  obtain ⟨j, hj, hjk⟩ := pwS_mem.1 (of_decide_eq_true h2)
  refine ⟨K, rfl, by omega, dis_le (fun i => R.pw_lt ha i) h1, h2, fun hu => ?_, fun hu hk => ?_⟩
  · have hb := seqZ_back R.pl R.p R.he hu ha j (K - j) (by rw [show j + (K - j) = K by omega]; exact hjk)
    have hj0 : j = 0 := by
      rcases Nat.eq_zero_or_pos j with h | h
      · exact h
      · exact absurd hb.symm (h1 0 (K - j) (by omega) (by omega))
    subst hj0
    have hK : seqZ m P e a K = e := hjk.symm
    have HO := R.uord ha hu
    refine ⟨?_, hK⟩
    rcases Nat.lt_or_ge K (ordZ m P e a) with h | h
    · exact absurd hK (HO.2.2.2 K (by omega) h)
    · rcases Nat.lt_or_ge (ordZ m P e a) K with h3 | h3
      · exact absurd HO.2.2.1.symm (h1 0 _ (by have := HO.1; omega) h3)
      · omega
  · obtain ⟨k, rfl⟩ : ∃ k, K = k + 1 := ⟨K - 1, by omega⟩
    exact hu ⟨seqZ m P e a k, R.pw_lt ha k, by rw [R.p.comm ha (R.pw_lt ha k)]; exact hk⟩
theorem pwS_get {k i : Nat} (h : i < k) : (pwS m P e a k)[i]?.getD 0 = ((seqZ m P e a i : Nat) : Int) := by
  unfold pwS
  rw [List.getElem?_map, List.getElem?_range h]; rfl
theorem hasB_succ {k : Nat} {x : Int} : hasB (pwS m P e a (k + 1)) x = (hasB (pwS m P e a k) x || (((seqZ m P e a k : Nat) : Int) == x)) := by
  rw [pwS_succ]
  unfold hasB
  rw [Bool.eq_iff_iff, decide_eq_true_iff, Bool.or_eq_true, decide_eq_true_iff, beq_iff_eq, List.mem_append, List.mem_singleton]
  exact or_congr Iff.rfl eq_comm
theorem uord_not {n o a : Int} {X Y : List Int} (h : ¬ 0 ≤ invV n o X Y a) : uordV n o X Y a = -1 := uordV_no h
end

section
variable {n o : Int} {A B : Option Addr} {la ca lb cb : Nat} {X Y : List Int} {w : World}
theorem c_powl (h : RIn w A la ca B lb cb X Y) (x : Int) (Z : List Int) (hz : pwlV n o X Y x = Z) : Calls Try.prog 24 #[.agg #[.int .i64 n, .int .i64 o, .slice A la ca, .slice B lb cb], .int .i64 x] w fun e' w' => ∃ v, e' = .returned v ∧ SliceOut w.heap.size w' v Z ∧ Below w.heap.size w w' := by
  subst hz
  exact powl_any n o A B la ca lb cb X Y x w h.hX h.hY h.hla h.hlb h.hca h.hcb
theorem cs_powl (h : RIn w A la ca B lb cb X Y) (x : Int) (Z : List Int) (hz : pwlV n o X Y x = Z) : Calls Try.prog 25 #[.agg #[.int .i64 n, .int .i64 o, .slice A la ca, .slice B lb cb], .int .i64 x] w fun e' w' => ∃ v, e' = .returned v ∧ SliceOut w.heap.size w' v Z ∧ Below w.heap.size w w' := by
  subst hz
  exact spowl_any n o A B la ca lb cb X Y x w h.hX h.hY h.hla h.hlb h.hca h.hcb
end

set_option maxHeartbeats 4000000 in
theorem drawPowersOf_any (A : Option Addr) (n c : Nat) (w : World) (hb : Byts w w.heap.size A n) (hn : n ≤ 1048576) (hc : n ≤ c) (hc2 : c ≤ 9223372036854775807) :
    Calls Try.prog 23 #[.slice A n c] w fun e w' => ∃ (v : Value) (a : Int), e = .returned (.tuple #[v, .int .i64 a]) ∧ AnyR w.heap.size w' v ∧ Wrd a ∧ Below w.heap.size w w' := by
  obtain ⟨W, hW⟩ : ∃ W, w.alloc (.cells #[.int .i64 0, .int .i64 0, .slice none 0 0, .slice none 0 0] 25) = W := ⟨_, rfl⟩
  have hs : W.heap.size = w.heap.size + 1 := by subst hW; simp
  have bW : Below w.heap.size w W := by subst hW; exact (Below.refl _ _).alloc (Nat.le_refl _) _
  have K0 := Lib.hid (show Blk W w.heap.size 25 #[.int .i64 0, .int .i64 0, .slice none 0 0, .slice none 0 0] by subst hW; exact Blk.new w _ _)
  have HB := Lib.hid (hb.grow bW)
  have B0 := Lib.hid bW
  clear bW
  go_enter Try.func23, Try.ntmps23
  go_upto_region 1 with (fail)
  clear hW
  go_wp2_with (fail)
  refine (drawNeg_any A n c W HB.out hn hc hc2).mono ?_
  rintro e w2 ⟨v, a, rfl, hA, ha, hb2⟩
  have F2 := hA
  obtain ⟨n2, o2, A2, B2, q2, ca2, cb2, X2, Y2, rfl, _, _, _⟩ := hA.data
  have F2 := Lib.hid F2
  have K2 := Lib.hid (K0.out.below hb2 (by omega))
  have X2 := Lib.hid (B0.out.trans (hb2.mono (by omega)))
  have S2 := Lib.hid (show w.heap.size < W.heap.size from by omega)
  clear hb2 hA
  have d0 := K2.out.cell 0
  have d1 := K2.out.cell 1
  have d2 := K2.out.cell 2
  have d3 := K2.out.cell 3
  have f0 := K2.out.frozen 0
  have f1 := K2.out.frozen 1
  have f2 := K2.out.frozen 2
  have f3 := K2.out.frozen 3
  simp at d0 d1 d2 d3
  go_wp2_with (fail)
  refine bodyPost_ret (v := .tuple #[.agg #[.int .i64 n2, .int .i64 o2, .slice A2 q2 ca2, .slice B2 q2 cb2], .int .i64 a]) ?_ rfl ⟨_, a, rfl, (F2.out.store S2.out).lower (Nat.le_of_lt S2.out), ha, store4_below X2.out (Nat.le_refl _)⟩
  exact results_cell_flag (fn := Try.f23) rfl _ _ w.heap.size 25 _ _ _ rfl rfl (store4_blk K2.out) Try.underlying25 rfl (by kernel_rfl)

end Go.Proofs.Ytlcpbdbdiahmjaa

