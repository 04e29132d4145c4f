/- Texts of this seat in one: BG BL. -/
import Derived.Test.YtlcpbdbdiahmjaaMG
import Derived.Test.YtlcpbdbdiahmjaaNM

/- PrimitiveUnitOf of both sides. -/
namespace Go.Proofs.Ytlcpbdbdiahmjaa
open Go.RowKit Go.Shelf
set_option maxRecDepth 100000

/-- The first one whose number is c; -1 if there is none. -/
def puF (f : Int → Int) (c : Int) : List Int → Int
  | [] => -1
  | u :: t => if f u = c then u else puF f c t
theorem puF_hit {f : Int → Int} {c u : Int} {t : List Int} (h : f u = c) : puF f c (u :: t) = u := if_pos h
theorem puF_miss {f : Int → Int} {c u : Int} {t : List Int} (h : ¬ f u = c) : puF f c (u :: t) = puF f c t := if_neg h
noncomputable def puV (n o : Int) (X Y : List Int) : Int := puF (uordV n o X Y) ((kindsL n o X Y 0).length : Int) (kindsL n o X Y 0)

set_option maxHeartbeats 4000000 in
theorem pu_any (n o : Int) (A B : Option Addr) (la ca lb cb : Nat) (X Y : List Int) (w : World) (hX : Ints w w.heap.size A la X) (hY : Ints w w.heap.size B lb Y) (hla : la ≤ 9223372036854775807) (hlb : lb ≤ 9223372036854775807) (hca : la ≤ ca) (hcb : lb ≤ cb) :
    Calls Try.prog 39 #[.agg #[.int .i64 n, .int .i64 o, .slice A la ca, .slice B lb cb]] w fun e' w' => e' = .returned (.int .i64 (puV n o X Y)) ∧ Below w.heap.size w w' := by
  obtain ⟨W, hW⟩ : ∃ W, w.alloc (.cells #[.int .i64 n, .int .i64 o, .slice A la ca, .slice B lb cb] 25) = W := ⟨_, rfl⟩
  have k0 : Blk W w.heap.size 25 #[.int .i64 n, .int .i64 o, .slice A la ca, .slice B lb cb] := by
    subst hW; exact Blk.new w _ _
  have b0 : Below w.heap.size w W := by
    subst hW; exact (Below.refl _ _).alloc (Nat.le_refl _) _
  obtain ⟨c0, c1, c2, c3⟩ := blk4 k0
  have HX := Lib.hid (hX.next b0)
  have HY := Lib.hid (hY.next b0)
  have K0 := Lib.hid k0
  have B0 := Lib.hid b0
  have HW := Lib.hid hW
  clear k0 hW hX hY b0
  obtain ⟨U, hU⟩ : ∃ U, kindsL n o X Y 0 = U := ⟨_, rfl⟩
  have HU := Lib.hid hU
  obtain ⟨Z, hZ⟩ : ∃ Z, puF (uordV n o X Y) (U.length : Int) U = Z := ⟨_, rfl⟩
  have hz := Lib.hid (show puV n o X Y = Z by rw [← hZ, ← hU]; rfl)
  have HZ := Lib.hid hZ
  clear hU hZ
  go_enter Try.func39, Try.ntmps39
  go_wp2_with (fail)
  rw [HW.out]
  refine (kind0_any n o A B la ca lb cb X Y W HX.out HY.out hla hlb hca hcb).mono ?_
  rw [HU.out]
  rintro e1 w1 ⟨v, rfl, ho, hb1⟩
  obtain ⟨A1, len, q1, rfl, ow1, n1, n2⟩ := ho
  have U1 := Lib.hid ow1.ints
  have HN := Lib.hid U1.out.1
  have K1 := Lib.hid (K0.out.next hb1)
  have B1 := Lib.hid (below_step B0.out hb1)
  have X1 := Lib.hid (HX.out.next hb1)
  have Y1 := Lib.hid (HY.out.next hb1)
  clear hb1 c0 c1 c2 c3 ow1
  go_wp2
  go_loopg [10] len (fun g vi wr => ∃ k : Nat, k ≤ len ∧ len ≤ k + g ∧ vi = .int .i64 k ∧ Hid (puF (uordV n o X Y) (len : Int) (U.drop k) = Z) ∧ Below w1.heap.size w1 wr)
  case atStart => exact ⟨0, Nat.zero_le _, by omega, rfl, Lib.hid (by rw [List.drop_zero, ← HN.out]; exact HZ.out), Below.refl _ _⟩
  case round =>
    obtain ⟨k, hk, hg, rfl, hp, hb⟩ := hrel
    have BW := Lib.hid hb
    have KW := Lib.hid (K1.out.next hb)
    have XW := Lib.hid (X1.out.next hb)
    have YW := Lib.hid (Y1.out.next hb)
    have UW := Lib.hid (U1.out.next hb)
    obtain ⟨c0, c1, c2, c3⟩ := blk4 KW.out
    clear hb
    by_cases hlt : k < len
    · obtain ⟨b, off, rfl, _, hcc⟩ := UW.out.at_ hlt
      obtain ⟨u, hu⟩ : ∃ u, U[k]?.getD 0 = u := ⟨_, rfl⟩
      have hp2 := hp.out
      rw [drop_at (by rw [HN.out]; exact hlt), hu] at hp2
      have HP2 := Lib.hid hp2
      rw [hu] at hcc
      clear hp2 hu
      obtain ⟨z, hz1⟩ : ∃ z, uordV n o X Y u = z := ⟨_, rfl⟩
      have UO := Lib.hid hz1
      by_cases he : z = (len : Int)
      · have HR := Lib.hid ((puF_hit (hz1.trans he)).symm.trans HP2.out)
        have te : (z == (len : Int)) = true := by rw [beq_iff_eq]; exact he
        clear he hz1
        go_wp2_with (go_at_call 29; refine (uord_any n o A B la ca lb cb X Y u _ XW.out YW.out hla hlb hca hcb).mono ?_; rw [UO.out]; rintro e2 w2 ⟨rfl, hb2⟩; have B2 := Lib.hid (below_step BW.out hb2); clear hb2)
        go_ret
        exact ⟨ret_int (by rw [hz.out]; exact HR.out), below_step B1.out B2.out⟩
      · have HR := Lib.hid ((puF_miss (fun h => he (hz1.symm.trans h))).symm.trans HP2.out)
        have te : (z == (len : Int)) = false := by rw [beq_eq_false_iff_ne]; exact he
        clear he hz1
        go_wp2_with (go_at_call 29; refine (uord_any n o A B la ca lb cb X Y u _ XW.out YW.out hla hlb hca hcb).mono ?_; rw [UO.out]; rintro e2 w2 ⟨rfl, hb2⟩; have B2 := Lib.hid (below_step BW.out hb2); clear hb2)
        go_roundg (len - (k + 1))
        case measure => omega
        case rel => exact ⟨k + 1, by omega, by omega, by go_num, HR, B2.out⟩
    · have hkm : k = len := by omega
      subst hkm
      have HF := Lib.hid (show -1 = Z by rw [← hp.out, List.drop_eq_nil_of_le (by rw [HN.out]; exact Nat.le_refl _)]; rfl)
      clear c0 c1 c2 c3
      go_wp2
      go_ret
      exact ⟨ret_int (by rw [hz.out]; exact HF.out), below_step B1.out BW.out⟩

set_option maxHeartbeats 4000000 in
theorem spu_any (n o : Int) (A B : Option Addr) (la ca lb cb : Nat) (X Y : List Int) (w : World) (hX : Ints w w.heap.size A la X) (hY : Ints w w.heap.size B lb Y) (hla : la ≤ 9223372036854775807) (hlb : lb ≤ 9223372036854775807) (hca : la ≤ ca) (hcb : lb ≤ cb) :
    Calls Try.prog 37 #[.agg #[.int .i64 n, .int .i64 o, .slice A la ca, .slice B lb cb]] w fun e' w' => e' = .returned (.int .i64 (puV n o X Y)) ∧ Below w.heap.size w w' := by
  obtain ⟨W, hW⟩ : ∃ W, w.alloc (.cells #[.int .i64 n, .int .i64 o, .slice A la ca, .slice B lb cb] 25) = W := ⟨_, rfl⟩
  have k0 : Blk W w.heap.size 25 #[.int .i64 n, .int .i64 o, .slice A la ca, .slice B lb cb] := by
    subst hW; exact Blk.new w _ _
  have b0 : Below w.heap.size w W := by
    subst hW; exact (Below.refl _ _).alloc (Nat.le_refl _) _
  obtain ⟨c0, c1, c2, c3⟩ := blk4 k0
  have HX := Lib.hid (hX.next b0)
  have HY := Lib.hid (hY.next b0)
  have K0 := Lib.hid k0
  have B0 := Lib.hid b0
  have HW := Lib.hid hW
  clear k0 hW hX hY b0
  obtain ⟨U, hU⟩ : ∃ U, kindsL n o X Y 0 = U := ⟨_, rfl⟩
  have HU := Lib.hid hU
  obtain ⟨Z, hZ⟩ : ∃ Z, puF (uordV n o X Y) (U.length : Int) U = Z := ⟨_, rfl⟩
  have hz := Lib.hid (show puV n o X Y = Z by rw [← hZ, ← hU]; rfl)
  have HZ := Lib.hid hZ
  clear hU hZ
  go_enter Try.func37, Try.ntmps37
  go_wp2_with (fail)
  rw [HW.out]
  refine (skind0_any n o A B la ca lb cb X Y W HX.out HY.out hla hlb hca hcb).mono ?_
  rw [HU.out]
  rintro e1 w1 ⟨v, rfl, ho, hb1⟩
  obtain ⟨A1, len, q1, rfl, ow1, n1, n2⟩ := ho
  have U1 := Lib.hid ow1.ints
  have HN := Lib.hid U1.out.1
  have K1 := Lib.hid (K0.out.next hb1)
  have B1 := Lib.hid (below_step B0.out hb1)
  have X1 := Lib.hid (HX.out.next hb1)
  have Y1 := Lib.hid (HY.out.next hb1)
  clear hb1 c0 c1 c2 c3 ow1
  go_wp2
  go_loopg [10] len (fun g vi wr => ∃ k : Nat, k ≤ len ∧ len ≤ k + g ∧ vi = .int .i64 k ∧ Hid (puF (uordV n o X Y) (len : Int) (U.drop k) = Z) ∧ Below w1.heap.size w1 wr)
  case atStart => exact ⟨0, Nat.zero_le _, by omega, rfl, Lib.hid (by rw [List.drop_zero, ← HN.out]; exact HZ.out), Below.refl _ _⟩
  case round =>
    obtain ⟨k, hk, hg, rfl, hp, hb⟩ := hrel
    have BW := Lib.hid hb
    have KW := Lib.hid (K1.out.next hb)
    have XW := Lib.hid (X1.out.next hb)
    have YW := Lib.hid (Y1.out.next hb)
    have UW := Lib.hid (U1.out.next hb)
    obtain ⟨c0, c1, c2, c3⟩ := blk4 KW.out
    clear hb
    by_cases hlt : k < len
    · obtain ⟨b, off, rfl, _, hcc⟩ := UW.out.at_ hlt
      obtain ⟨u, hu⟩ : ∃ u, U[k]?.getD 0 = u := ⟨_, rfl⟩
      have hp2 := hp.out
      rw [drop_at (by rw [HN.out]; exact hlt), hu] at hp2
      have HP2 := Lib.hid hp2
      rw [hu] at hcc
      clear hp2 hu
      obtain ⟨z, hz1⟩ : ∃ z, uordV n o X Y u = z := ⟨_, rfl⟩
      have UO := Lib.hid hz1
      by_cases he : z = (len : Int)
      · have HR := Lib.hid ((puF_hit (hz1.trans he)).symm.trans HP2.out)
        have te : (z == (len : Int)) = true := by rw [beq_iff_eq]; exact he
        clear he hz1
        go_wp2_with (go_at_call 86; refine (suord_any n o A B la ca lb cb X Y u _ XW.out YW.out hla hlb hca hcb).mono ?_; rw [UO.out]; rintro e2 w2 ⟨rfl, hb2⟩; have B2 := Lib.hid (below_step BW.out hb2); clear hb2)
        go_ret
        exact ⟨ret_int (by rw [hz.out]; exact HR.out), below_step B1.out B2.out⟩
      · have HR := Lib.hid ((puF_miss (fun h => he (hz1.symm.trans h))).symm.trans HP2.out)
        have te : (z == (len : Int)) = false := by rw [beq_eq_false_iff_ne]; exact he
        clear he hz1
        go_wp2_with (go_at_call 86; refine (suord_any n o A B la ca lb cb X Y u _ XW.out YW.out hla hlb hca hcb).mono ?_; rw [UO.out]; rintro e2 w2 ⟨rfl, hb2⟩; have B2 := Lib.hid (below_step BW.out hb2); clear hb2)
        go_roundg (len - (k + 1))
        case measure => omega
        case rel => exact ⟨k + 1, by omega, by omega, by go_num, HR, B2.out⟩
    · have hkm : k = len := by omega
      subst hkm
      have HF := Lib.hid (show -1 = Z by rw [← hp.out, List.drop_eq_nil_of_le (by rw [HN.out]; exact Nat.le_refl _)]; rfl)
      clear c0 c1 c2 c3
      go_wp2
      go_ret
      exact ⟨ret_int (by rw [hz.out]; exact HF.out), below_step B1.out BW.out⟩

end Go.Proofs.Ytlcpbdbdiahmjaa



/- PowersOf of both sides. -/
namespace Go.Proofs.Ytlcpbdbdiahmjaa
open Go.RowKit Go.Shelf
set_option maxRecDepth 100000

section
variable {m e a : Nat} {P : Nat → Nat}
/-- The first so many powers. -/
def pwS (m : Nat) (P : Nat → Nat) (e a k : Nat) : List Int := (List.range k).map fun j => ((seqZ m P e a j : Nat) : Int)
theorem pwS_len {k : Nat} : (pwS m P e a k).length = k := by simp [pwS]
theorem pwS_succ {k : Nat} : pwS m P e a (k + 1) = pwS m P e a k ++ [((seqZ m P e a k : Nat) : Int)] := by simp [pwS, List.range_succ]
theorem pwS_mem {k x : Nat} : (x : Int) ∈ pwS m P e a k ↔ ∃ j, j < k ∧ seqZ m P e a j = x := by
  simp only [pwS, List.mem_map, List.mem_range]
  constructor
  · rintro ⟨j, h1, h2⟩; exact ⟨j, h1, by omega⟩
  · rintro ⟨j, h1, h2⟩; exact ⟨j, h1, by omega⟩
/-- Where the first power stands that comes again. -/
def pwK (m : Nat) (P : Nat → Nat) (e a : Nat) : Nat → Nat → Nat
  | 0, k => k
  | f + 1, k => if hasB (pwS m P e a k) ((seqZ m P e a k : Nat) : Int) = true then k else pwK m P e a f (k + 1)
theorem pwK_yes {f k : Nat} (h : hasB (pwS m P e a k) ((seqZ m P e a k : Nat) : Int) = true) : pwK m P e a f k = k := by
  cases f with
  | zero => rfl
  | succ f => exact if_pos h
theorem pwK_no {f k : Nat} (h : hasB (pwS m P e a k) ((seqZ m P e a k : Nat) : Int) = false) : pwK m P e a (f + 1) k = pwK m P e a f (k + 1) := if_neg (by rw [h]; simp)
def Dis (m : Nat) (P : Nat → Nat) (e a k : Nat) : Prop := ∀ i j, i < j → j < k → seqZ m P e a i ≠ seqZ m P e a j
theorem dis_le {k : Nat} (hl : ∀ i, seqZ m P e a i < m) (h : Dis m P e a k) : k ≤ m := by
  rcases Nat.lt_or_ge m k with h1 | h1
  · obtain ⟨i, j, hij, hj, q⟩ := pigeon m (seqZ m P e a) (fun i _ => hl i)
    exact absurd q (h i j hij (by omega))
  · exact h1
theorem dis_succ {k : Nat} (h : Dis m P e a k) (hn : hasB (pwS m P e a k) ((seqZ m P e a k : Nat) : Int) = false) : Dis m P e a (k + 1) := by
  intro i j hij hj
  rcases Nat.lt_or_ge j k with h1 | h1
  · exact h i j hij h1
  · obtain rfl : j = k := by omega
    intro q
    have : hasB (pwS m P e a j) ((seqZ m P e a j : Nat) : Int) = true := decide_eq_true (pwS_mem.2 ⟨i, hij, q⟩)
    rw [hn] at this
    cases this
/-- The powers of an element, each once. -/
def pwL (m : Nat) (P : Nat → Nat) (e a : Nat) : List Int := pwS m P e a (pwK m P e a (m + 1) 0)
end
noncomputable def pwlV (n o : Int) (X Y : List Int) (a : Int) : List Int := @ite _ (validB n o X Y = true ∧ inB n a = true) (Classical.propDecidable _) (pwL n.toNat (tabOf Y) o.toNat a.toNat) []
theorem pwl_no {n o a : Int} {X Y : List Int} (h : ¬ (validB n o X Y = true ∧ inB n a = true)) : pwlV n o X Y a = [] := @if_neg _ (Classical.propDecidable _) h _ _ _
theorem pwl_yes {m e a : Nat} {X Y : List Int} (h : validB m e X Y = true) (ha : inB m (a : Int) = true) : pwlV m e X Y a = pwL m (tabOf Y) e a := @if_pos _ (Classical.propDecidable _) ⟨h, ha⟩ _ _ _

set_option maxHeartbeats 1000000 in
theorem pHas_any (A : Option Addr) (len cap : Nat) (xs : List Int) (a : Int) (w : World) (E : Nat) (hI : Ints w E A len xs) (hlen : len ≤ 9223372036854775807) :
    Calls Try.prog 76 #[.slice A len cap, .int .i64 a] w fun e w' => e = .returned (.bool (hasB xs a)) ∧ w = w' := by
  have HL := Lib.hid hI.1
  have HI := Lib.hid hI
  clear hI
  go_enter Try.func76, Try.ntmps76
  go_wp2
  go_loop [9] (fun vi => ∃ k : Nat, k ≤ len ∧ vi = .int .i64 k ∧ ∀ j, j < k → xs[j]?.getD 0 ≠ a) (fun vi => len - (intOf vi).toNat)
  case atStart => exact ⟨0, Nat.zero_le _, rfl, fun j hj => absurd hj (by omega)⟩
  case round =>
    obtain ⟨k, hk, rfl, hn⟩ := hrel
    have HN := Lib.hid hn
    clear hn
    by_cases hlt : k < len
    · obtain ⟨b, off, rfl, _, hc⟩ := HI.out.at_ hlt
      by_cases he : xs[k]?.getD 0 = a
      · have HE := Lib.hid (show hasB xs a = true from decide_eq_true (by
          have hl : k < xs.length := by rw [HL.out]; exact hlt
          rw [List.getElem?_eq_getElem hl] at he
          exact he ▸ List.getElem_mem hl))
        rw [he] at hc
        clear he
        go_wp2
        go_ret
        exact ⟨ret_bool HE.out.symm, rfl⟩
      · have HE := Lib.hid he
        obtain ⟨v, hv⟩ : ∃ v, xs[k]?.getD 0 = v := ⟨_, rfl⟩
        rw [hv] at hc
        have te : (a == v) = false := by rw [beq_eq_false_iff_ne]; intro e; exact he (by rw [hv, e])
        clear he hv
        go_wp2
        go_round
        case rel => exact ⟨k + 1, by omega, by go_num, forall_succ HN.out HE.out⟩
        case measure => simp [intOf]; omega
    · have hkm : k = len := by omega
      subst hkm
      have HE := Lib.hid (show hasB xs a = false from decide_eq_false (fun hm => by
        obtain ⟨j, hj, e⟩ := List.getElem_of_mem hm
        have := HN.out j (by rw [HL.out] at hj; exact hj)
        rw [List.getElem?_eq_getElem hj] at this
        exact this e))
      go_wp2
      go_ret
      exact ⟨ret_bool HE.out.symm, rfl⟩

theorem pr_neutral (a0 a1 a2 a3 : Value) (w : World) : (method 244 81 (.agg #[a0, a1, a2, a3]) "loop.example/finiterings/impl.neutral").run Try.prog w = .ok (163, (.agg #[a0, a1, a2, a3])) w := by kernel_rfl
theorem pr_operate (a0 a1 a2 a3 : Value) (w : World) : (method 244 81 (.agg #[a0, a1, a2, a3]) "loop.example/finiterings/impl.operate").run Try.prog w = .ok (164, (.agg #[a0, a1, a2, a3])) w := by kernel_rfl

set_option maxHeartbeats 1000000 in
theorem neutral_any (m e : Nat) (A B : Option Addr) (la ca lb cb : Nat) (w : World) : Calls Try.prog 163 #[.agg #[.int .i64 m, .int .i64 e, .slice A la ca, .slice B lb cb]] w fun e' w' => e' = .returned (.int .i64 e) ∧ Below w.heap.size w w' := by
  go_enter Try.func163, Try.ntmps163
  go_wp2
  go_ret
  exact ⟨rfl, (Below.refl _ _).alloc (Nat.le_refl _) _⟩

set_option maxHeartbeats 1000000 in
theorem operate_any (x a : Nat) (m e b1 o1 la ca b2 o2 lb cb : Nat) (S P : Nat → Nat) (w : World) (hr : RingAt w m e b1 o1 la ca b2 o2 lb cb S P) (hx : x < m) (ha : a < m) : Calls Try.prog 164 #[.agg #[.int .i64 m, .int .i64 e, .slice (some ⟨b1, o1, none⟩) la ca, .slice (some ⟨b2, o2, none⟩) lb cb], .int .i64 x, .int .i64 a] w fun e' w' => e' = .returned (.int .i64 (P (x * m + a))) ∧ Below w.heap.size w w' := by
  obtain ⟨W, hW⟩ : ∃ W, w.alloc (.cells #[.int .i64 m, .int .i64 e, .slice (some ⟨b1, o1, none⟩) la ca, .slice (some ⟨b2, o2, none⟩) lb cb] 81) = W := ⟨_, rfl⟩
  have k0 : Blk W w.heap.size 81 #[.int .i64 m, .int .i64 e, .slice (some ⟨b1, o1, none⟩) la ca, .slice (some ⟨b2, o2, none⟩) lb cb] := by subst hW; exact Blk.new w _ _
  have b0 : Below w.heap.size w W := by subst hW; exact (Below.refl _ _).alloc (Nat.le_refl _) _
  have R0 := Lib.hid (hr.next b0)
  obtain ⟨c0, c1, c2, c3⟩ := blk4 k0
  have HW := Lib.hid hW
  have B0 := Lib.hid b0
  clear hr b0 k0 hW
  go_enter Try.func164, Try.ntmps164
  go_wp2_with (fail)
  rw [HW.out]
  go_wp2_with (go_at_call 78; refine (product_any x a m e b1 o1 la ca b2 o2 lb cb S P _ R0.out hx ha).mono ?_; rintro e1 w1 ⟨rfl, hb1⟩; have B1 := Lib.hid (below_step B0.out hb1); clear hb1)
  go_ret
  exact ⟨rfl, B1.out⟩

set_option maxHeartbeats 4000000 in
theorem repeated_any (a : Nat) (m e b1 o1 la ca b2 o2 lb cb : Nat) (S P : Nat → Nat) (w : World) (hr : RingAt w m e b1 o1 la ca b2 o2 lb cb S P) (ha : a < m) :
    Calls Try.prog 73 #[.agg #[.int .i64 m, .int .i64 e, .slice (some ⟨b1, o1, none⟩) la ca, .slice (some ⟨b2, o2, none⟩) lb cb], .int .i64 a] w fun e' w' => ∃ v, e' = .returned v ∧ SliceOut w.heap.size w' v (pwL m P e a) ∧ Below w.heap.size w w' := by
  obtain ⟨i0, hi, hz0, hz1, hz2⟩ := info_parts int_info
  have q1 := pr_neutral (.int .i64 m) (.int .i64 e) (.slice (some ⟨b1, o1, none⟩) la ca) (.slice (some ⟨b2, o2, none⟩) lb cb)
  have q2 := pr_operate (.int .i64 m) (.int .i64 e) (.slice (some ⟨b1, o1, none⟩) la ca) (.slice (some ⟨b2, o2, none⟩) lb cb)
  obtain ⟨W, hW⟩ : ∃ W, w.alloc (.cells #[.int .i64 m, .int .i64 e, .slice (some ⟨b1, o1, none⟩) la ca, .slice (some ⟨b2, o2, none⟩) lb cb] 81) = W := ⟨_, rfl⟩
  have k0 : Blk W w.heap.size 81 #[.int .i64 m, .int .i64 e, .slice (some ⟨b1, o1, none⟩) la ca, .slice (some ⟨b2, o2, none⟩) lb cb] := by subst hW; exact Blk.new w _ _
  have b0 : Below w.heap.size w W := by subst hW; exact (Below.refl _ _).alloc (Nat.le_refl _) _
  have HR0 := Lib.hid hr
  have hm' := hr.hm'
  have he := hr.he
  have SL := Lib.hid (show ∀ k, seqZ m P e a k < m from seqZ_lt (fun k hk => (hr.tp.2 k hk).2) hr.he ha)
  have K0 := Lib.hid k0
  obtain ⟨c0, c1, c2, c3⟩ := blk4 k0
  have HW := Lib.hid hW
  have B0 := Lib.hid b0
  have hs0 := k0.lt
  obtain ⟨Z, hZ⟩ : ∃ Z, pwK m P e a (m + 1) 0 = Z := ⟨_, rfl⟩
  have hz := Lib.hid (show pwL m P e a = pwS m P e a Z by rw [← hZ]; rfl)
  have HZ := Lib.hid hZ
  clear hr b0 k0 hW hZ
  go_enter Try.func73, Try.ntmps73
  go_wp2_with (fail)
  rw [HW.out]
  go_wp2_with (go_at_call 163; refine (neutral_any m e _ _ la ca lb cb _).mono ?_; rintro e1 w1 ⟨rfl, hb1⟩; have B1 := Lib.hid (below_step B0.out hb1); have K1 := Lib.hid (K0.out.next hb1); clear hb1)
  have hs1 := B1.out.size
  go_loopg [5, 6] (m + 1) (fun g vs vr wr => ∃ k : Nat, k + g = m + 1 ∧ vr = .int .i64 (seqZ m P e a k : Nat) ∧ wr.ownsRow w.heap.size 3 1 vs k ((pwS m P e a k).map (.int .i64)) ∧ Hid (Dis m P e a k) ∧ Hid (pwK m P e a g k = Z) ∧ Below w.heap.size w wr ∧ Blk wr w.heap.size 81 #[.int .i64 m, .int .i64 e, .slice (some ⟨b1, o1, none⟩) la ca, .slice (some ⟨b2, o2, none⟩) lb cb])
  case atStart => exact ⟨0, by omega, rfl, ⟨rfl, .inl ⟨rfl, rfl⟩⟩, Lib.hid fun i j _ hj => absurd hj (by omega), HZ, B1.out, K1.out⟩
  case round =>
    obtain ⟨k, hkg, rfl, hown, hdis, hpk, hb, hK⟩ := hrel
    have hsz := hb.size
    have BW := Lib.hid hb
    have KW := Lib.hid hK
    have RW := Lib.hid (HR0.out.next hb)
    have hk := dis_le SL.out hdis.out
    have hxl := SL.out k
    have SS := Lib.hid (show P (seqZ m P e a k * m + a) = seqZ m P e a (k + 1) from rfl)
    have SP := Lib.hid (pwS_succ (m := m) (P := P) (e := e) (a := a) (k := k))
    obtain ⟨A1, l1, q1, rfl, ow1, n1, n2⟩ := SliceOut.of_row (n := k) hown pwS_len (by omega)
    obtain rfl : k = l1 := by rw [← ow1.1, pwS_len]
    have OW := Lib.hid hown
    have IW := Lib.hid ow1.ints
    obtain ⟨c0, c1, c2, c3⟩ := blk4 KW.out
    have hds := hdis.out
    have hpk2 := hpk.out
    clear hb hK hown ow1
    cases hq : hasB (pwS m P e a k) ((seqZ m P e a k : Nat) : Int)
    · obtain ⟨g, rfl⟩ : ∃ g, gk = g + 1 := ⟨gk - 1, by omega⟩
      have HD := Lib.hid (dis_succ hds hq)
      have HP := Lib.hid ((pwK_no hq).symm.trans hpk2)
      have HQ := Lib.hid hq
      obtain ⟨x, hx⟩ : ∃ x, seqZ m P e a k = x := ⟨_, rfl⟩
      rw [hx] at HQ hxl SS SP ⊢
      clear hds hpk2 hq hx c0 c1 c2 c3
      obtain ⟨c0, c1, c2, c3⟩ := blk4 KW.out
      go_wp2_with (first
        | (go_at_call 105; refine (contains_any _ k _ _ _ _ wr.heap.size IW.out (by omega)).mono ?_; rintro e2 w2 ⟨rfl, rfl⟩; rw [HQ.out])
        | (at_builtin; refine wpList_append_own _ rfl _ _ 23 rfl w.heap.size 3 i0 (.int .i64 0) 1 8 Try.underlying23 hi hz0 hz1 hz2 rfl (by decide) _ _ _ rfl (OW.out.alloc _) ⟨wr.heap.size, 0, none⟩ 1 1 [.int .i64 x] rfl rfl (by intro i u hi; match i, hi with | 0, hi => simp at hi; subst hi; simp [Addr.add]) (by intro u hu; simp at hu; subst hu; rfl) (by unfold maxLen; omega) (by omega) (by simp; omega) ?_; intro v5 w5 hown5 hg5 _; have kp := append_keeps KW.out OW.out (by decide) hg5 hsz; have B5 := Lib.hid (BW.out.trans kp.2.1); have K5 := Lib.hid kp.1; have O5 := Lib.hid (show w5.ownsRow w.heap.size 3 1 v5 (k + 1) ((pwS m P e a (k + 1)).map (.int .i64)) by rw [SP.out]; simpa using hown5); clear hown5 hg5 kp c0 c1 c2 c3; obtain ⟨c0, c1, c2, c3⟩ := blk4 K5.out)
        | (go_at_call 164; refine (operate_any x a m e b1 o1 la ca b2 o2 lb cb S P _ (HR0.out.next B5.out) hxl ha).mono ?_; rintro e3 w3 ⟨rfl, hb3⟩; have B6 := Lib.hid (below_step B5.out hb3); have K6 := Lib.hid (K5.out.next hb3); have O6 := Lib.hid (own_nextK O5.out hb3); clear hb3))
      go_roundg g
      case measure => omega
      case rel => exact ⟨k + 1, by omega, by rw [SS.out], O6.out, HD, HP, B6.out, K6.out⟩
    · have HP := Lib.hid ((pwK_yes hq).symm.trans hpk2)
      have HQ := Lib.hid hq
      clear hds hpk2 hq
      go_wp2_with (go_at_call 105; refine (contains_any _ k _ _ _ _ wr.heap.size IW.out (by omega)).mono ?_; rintro e2 w2 ⟨rfl, rfl⟩; rw [HQ.out])
      go_ret
      exact ⟨_, rfl, by rw [hz.out, ← HP.out]; exact SliceOut.of_row OW.out pwS_len (by omega), BW.out⟩

set_option maxHeartbeats 4000000 in
theorem powl_any (n o : Int) (A B : Option Addr) (la ca lb cb : Nat) (X Y : List Int) (a : Int) (w : World) (hX : Ints w w.heap.size A la X) (hY : Ints w w.heap.size B lb Y) (hla : la ≤ 9223372036854775807) (hlb : lb ≤ 9223372036854775807) (hca : la ≤ ca) (hcb : lb ≤ cb) :
    Calls Try.prog 24 #[.agg #[.int .i64 n, .int .i64 o, .slice A la ca, .slice B lb cb], .int .i64 a] w fun e' w' => ∃ v, e' = .returned v ∧ SliceOut w.heap.size w' v (pwlV n o X Y a) ∧ Below w.heap.size w w' := by
  have sn : ∀ (D : Nat) (u : World), SliceOut D u (.slice none 0 0) [] := fun D u => SliceOut.of_row (T := 3) (n := 0) ⟨rfl, .inl ⟨rfl, rfl⟩⟩ rfl (by omega)
  obtain ⟨c0, c1, c2, c3, hs⟩ := box4_new w (.int .i64 n) (.int .i64 o) (.slice A la ca) (.slice B lb cb) 25
  obtain ⟨W, hW⟩ : ∃ W, w.alloc (.cells #[.int .i64 n, .int .i64 o, .slice A la ca, .slice B lb cb] 25) = W := ⟨_, rfl⟩
  have HB := Lib.hid (show Below w.heap.size w W by subst hW; exact (Below.refl w.heap.size w).alloc (Nat.le_refl _) _)
  have H0X := Lib.hid (hX.next HB.out)
  have H0Y := Lib.hid (hY.next HB.out)
  rw [hW] at c0 c1 c2 c3 hs
  have HW := Lib.hid hW
  have X0 := HB
  have HXX := Lib.hid hX
  have HYY := Lib.hid hY
  clear hW hX hY
  cases hv : validB n o X Y
  · have hz := Lib.hid (pwl_no (n := n) (o := o) (X := X) (Y := Y) (a := a) (fun g => by have := g.1; rw [hv] at this; cases this))
    have HV := Lib.hid hv
    clear hv
    go_enter Try.func24, Try.ntmps24
    go_wp2_with (fail)
    rw [HW.out]
    go_wp2_with (first
      | (go_at_call 71; ((with_reducible refine (valid_any _ _ _ _ _ _ _ _ X Y _ H0X.out H0Y.out hla hlb hca hcb).mono ?_); rintro e1 w1 ⟨rfl, hb1⟩; rw [HV.out]; obtain ⟨d0, d1, d2, d3, hs1⟩ := box4_next hb1 (by omega) c0 c1 c2 c3; have X1 := Lib.hid (X0.out.trans (hb1.mono (by omega))); clear hb1)))
    go_ret
    exact ⟨_, rfl, by rw [hz.out]; exact sn _ _, X1.out⟩
  · cases ha : inB n a
    · have hz := Lib.hid (pwl_no (n := n) (o := o) (X := X) (Y := Y) (a := a) (fun g => by have := g.2; simp [ha] at this))
      have HV := Lib.hid hv
      have HA := Lib.hid ha
      clear hv ha
      go_enter Try.func24, Try.ntmps24
      go_wp2_with (fail)
      rw [HW.out]
      go_wp2_with (first
        | (go_at_call 71; ((with_reducible refine (valid_any _ _ _ _ _ _ _ _ X Y _ H0X.out H0Y.out hla hlb hca hcb).mono ?_); rintro e1 w1 ⟨rfl, hb1⟩; rw [HV.out]; obtain ⟨d0, d1, d2, d3, hs1⟩ := box4_next hb1 (by omega) c0 c1 c2 c3; have X1 := Lib.hid (X0.out.trans (hb1.mono (by omega))); clear hb1))
        | (go_at_call 72; ((with_reducible refine (has_any _ _ a _ _ _ _ _ _ _).mono ?_); rintro e2 w2 ⟨rfl, hb2⟩; rw [HA.out]; obtain ⟨f0, f1, f2, f3, hs2⟩ := box4_next hb2 (by omega) d0 d1 d2 d3; have X2 := Lib.hid (X1.out.trans (hb2.mono (by omega))); clear hb2)))
      go_ret
      exact ⟨_, rfl, by rw [hz.out]; exact sn _ _, X2.out⟩
    · obtain ⟨m, e, b1, o1, b2, o2, rfl, rfl, rfl, rfl, hr, _, _, _, _, _⟩ := valid_data hv HXX.out HYY.out hca hcb
      have ha' := of_decide_eq_true ha
      obtain ⟨a, rfl⟩ := Int.eq_ofNat_of_zero_le ha'.1
      have la' : a < m := by omega
      have hz := Lib.hid (pwl_yes hv ha)
      have R0 := Lib.hid (hr.next X0.out)
      have HV := Lib.hid hv
      have HA := Lib.hid ha
      clear hv ha hr
      go_enter Try.func24, Try.ntmps24
      go_wp2_with (fail)
      rw [HW.out]
      go_wp2_with (first
        | (go_at_call 71; ((with_reducible refine (valid_any _ _ _ _ _ _ _ _ X Y _ H0X.out H0Y.out hla hlb hca hcb).mono ?_); rintro e1 w1 ⟨rfl, hb1⟩; rw [HV.out]; obtain ⟨d0, d1, d2, d3, hs1⟩ := box4_next hb1 (by omega) c0 c1 c2 c3; have X1 := Lib.hid (X0.out.trans (hb1.mono (by omega))); have R1 := Lib.hid (R0.out.next hb1); clear hb1))
        | (go_at_call 72; ((with_reducible refine (has_any _ _ (a : Int) _ _ _ _ _ _ _).mono ?_); rintro e2 w2 ⟨rfl, hb2⟩; rw [HA.out]; obtain ⟨f0, f1, f2, f3, hs2⟩ := box4_next hb2 (by omega) d0 d1 d2 d3; have X2 := Lib.hid (X1.out.trans (hb2.mono (by omega))); have R2 := Lib.hid (R1.out.next hb2); clear hb2))
        | (go_at_call 73; refine (repeated_any a m e b1 o1 la ca b2 o2 lb cb (tabOf X) (tabOf Y) _ R2.out la').mono ?_; rintro e3 w3 ⟨v3, rfl, ho3, hb3⟩; have hs3 := X2.out.size; have X3 := Lib.hid (X2.out.trans (hb3.mono hs3)); have HO := Lib.hid (ho3.down hs3); clear hb3 ho3))
      go_ret
      exact ⟨_, rfl, by rw [hz.out]; exact HO.out, X3.out⟩

set_option maxHeartbeats 4000000 in
theorem spowl_any (n o : Int) (A B : Option Addr) (la ca lb cb : Nat) (X Y : List Int) (a : Int) (w : World) (hX : Ints w w.heap.size A la X) (hY : Ints w w.heap.size B lb Y) (hla : la ≤ 9223372036854775807) (hlb : lb ≤ 9223372036854775807) (hca : la ≤ ca) (hcb : lb ≤ cb) :
    Calls Try.prog 25 #[.agg #[.int .i64 n, .int .i64 o, .slice A la ca, .slice B lb cb], .int .i64 a] w fun e' w' => ∃ v, e' = .returned v ∧ SliceOut w.heap.size w' v (pwlV n o X Y a) ∧ Below w.heap.size w w' := by
  have HH := Lib.hid (show wrap64 (n - 1) = hiOf n from rfl)
  obtain ⟨W1, hW1⟩ : ∃ W1, (w.alloc (.cells #[.int .i64 n, .int .i64 o, .slice A la ca, .slice B lb cb] 25)).alloc (.cells #[] 3) = W1 := ⟨_, rfl⟩
  have k1 : Blk W1 w.heap.size 25 #[.int .i64 n, .int .i64 o, .slice A la ca, .slice B lb cb] := by subst hW1; exact (Blk.new w _ _).alloc _
  have b1' : Below w.heap.size w W1 := by subst hW1; exact ((Below.refl _ _).alloc (Nat.le_refl _) _).alloc (by simp) _
  have o1' : W1.ownsRow w.heap.size 3 1 (.slice (some ⟨w.heap.size + 1, 0, none⟩) 0 0) 0 [] := by
    subst hW1
    have := own_lit_K (w := w.alloc (.cells #[.int .i64 n, .int .i64 o, .slice A la ca, .slice B lb cb] 25)) (base := w.heap.size) (e := 3) [] (by simp) (by unfold maxLen; simp)
    simpa using this
  have hsW : W1.heap.size = w.heap.size + 2 := by subst hW1; simp
  obtain ⟨W, hW⟩ : ∃ W, W1.alloc (.cells #[.int .i64 a] 3) = W := ⟨_, rfl⟩
  have bW : Below w.heap.size w W := by subst hW; exact b1'.alloc (by omega) _
  have kW : Blk W w.heap.size 25 #[.int .i64 n, .int .i64 o, .slice A la ca, .slice B lb cb] := by subst hW; exact k1.alloc _
  have oW : W.ownsRow w.heap.size 3 1 (.slice (some ⟨w.heap.size + 1, 0, none⟩) 0 0) 0 [] := by subst hW; exact o1'.alloc _
  have eW : Ints W W.heap.size (some ⟨w.heap.size + 1 + 1, 0, none⟩) 1 [a] := by
    subst hW
    have := ints_one (w := W1) (v := a) (T := 3)
    simpa [hsW] using this
  have HW1 := Lib.hid hW1
  have HW := Lib.hid hW
  have BB := Lib.hid bW
  have KK := Lib.hid kW
  have OO := Lib.hid oW
  have HE := Lib.hid eW
  have HX := Lib.hid hX
  have HY := Lib.hid hY
  have H0X := Lib.hid (hX.next bW)
  have H0Y := Lib.hid (hY.next bW)
  have hs := kW.lt
  have c0 := k1.cell 0
  have c1 := k1.cell 1
  have c2 := k1.cell 2
  have c3 := k1.cell 3
  simp at c0 c1 c2 c3
  clear hX hY hW hW1 bW kW oW eW k1 b1' o1'
  cases he : elB (hiOf n) [a]
  · have hz := Lib.hid (pwl_no (n := n) (o := o) (X := X) (Y := Y) (a := a) (fun g => by have h1 := g.1; have h2 := g.2; simp [hi_valid h1, elB_one] at he; simp [he] at h2))
    have HEL := Lib.hid he
    clear he
    go_enter Try.func25, Try.ntmps25
    go_wp2_with (fail)
    rw [HW1.out]
    go_wp2_with (fail)
    rw [HW.out]
    clear c0 c1 c2 c3
    obtain ⟨c0, c1, c2, c3⟩ := blk4 KK.out
    go_wp2_with (first
      | (go_at_call 74; ((with_reducible refine (l1Elements_any _ _ _ _ _ [a] _ _ HH.out HE.out (by omega)).mono ?_); rintro e50 w50 ⟨rfl, rfl⟩; rw [HEL.out])))
    go_ret
    exact ⟨_, rfl, by rw [hz.out]; exact SliceOut.of_row (n := 0) OO.out rfl (by omega), BB.out⟩
  · cases hv : validB n o X Y
    · have hz := Lib.hid (pwl_no (n := n) (o := o) (X := X) (Y := Y) (a := a) (fun g => by have := g.1; rw [hv] at this; cases this))
      have HEL := Lib.hid he
      have HV := Lib.hid hv
      clear he hv
      go_enter Try.func25, Try.ntmps25
      go_wp2_with (fail)
      rw [HW1.out]
      go_wp2_with (fail)
      rw [HW.out]
      clear c0 c1 c2 c3
      obtain ⟨c0, c1, c2, c3⟩ := blk4 KK.out
      go_wp2_with (first
        | (go_at_call 74; ((with_reducible refine (l1Elements_any _ _ _ _ _ [a] _ _ HH.out HE.out (by omega)).mono ?_); rintro e50 w50 ⟨rfl, rfl⟩; rw [HEL.out]))
        | (go_at_call 75; ((with_reducible refine (specValid_any _ _ _ _ _ _ _ _ X Y _ H0X.out H0Y.out hla hlb hca hcb).mono ?_); rintro e1 w1 ⟨rfl, hb1⟩; rw [HV.out]; have X1 := Lib.hid (below_step BB.out hb1); have O1 := Lib.hid (own_nextK OO.out hb1); clear hb1)))
      go_ret
      exact ⟨_, rfl, by rw [hz.out]; exact SliceOut.of_row (n := 0) O1.out rfl (by omega), X1.out⟩
    · obtain ⟨m, e, b1, o1, b2, o2, rfl, rfl, rfl, rfl, hr, _, _, _, _, _⟩ := valid_data hv HX.out HY.out hca hcb
      obtain ⟨i0, hi, hz0, hz1, hz2⟩ := info_parts int_info
      have ha : inB m a = true := by have h9 := he; rw [hi_valid hv, elB_one] at h9; exact h9
      have ha' := of_decide_eq_true ha
      obtain ⟨a, rfl⟩ := Int.eq_ofNat_of_zero_le ha'.1
      have la' : a < m := by omega
      have hz' := Lib.hid (pwl_yes hv ha)
      have HEL := Lib.hid he
      have HV := Lib.hid hv
      have HR0 := Lib.hid hr
      have hm' := hr.hm'
      have SL := Lib.hid (show ∀ k, seqZ m (tabOf Y) e a k < m from seqZ_lt (fun k hk => (hr.tp.2 k hk).2) hr.he la')
      obtain ⟨Z, hZ⟩ : ∃ Z, pwK m (tabOf Y) e a (m + 1) 0 = Z := ⟨_, rfl⟩
      have hz := Lib.hid (show pwlV m e X Y a = pwS m (tabOf Y) e a Z by rw [hz'.out, ← hZ]; rfl)
      have HZ := Lib.hid hZ
      clear he hv hr hz' ha hZ
      go_enter Try.func25, Try.ntmps25
      go_wp2_with (fail)
      rw [HW1.out]
      go_wp2_with (fail)
      rw [HW.out]
      clear c0 c1 c2 c3
      obtain ⟨c0, c1, c2, c3⟩ := blk4 KK.out
      go_wp2_with (first
        | (go_at_call 74; ((with_reducible refine (l1Elements_any _ _ _ _ _ [(a : Int)] _ _ HH.out HE.out (by omega)).mono ?_); rintro e50 w50 ⟨rfl, rfl⟩; rw [HEL.out]))
        | (go_at_call 75; ((with_reducible refine (specValid_any _ _ _ _ _ _ _ _ X Y _ H0X.out H0Y.out hla hlb hca hcb).mono ?_); rintro e1 w1 ⟨rfl, hb1⟩; rw [HV.out]; have B1 := Lib.hid (below_step BB.out hb1); have K1 := Lib.hid (KK.out.next hb1); have O1 := Lib.hid (own_nextK OO.out hb1); clear hb1; clear c0 c1 c2 c3; obtain ⟨c0, c1, c2, c3⟩ := blk4 K1.out)))
      have hs1 := B1.out.size
      go_loopg [5, 6] (m + 1) (fun g vs vr wr => ∃ k : Nat, k + g = m + 1 ∧ vr = .int .i64 (seqZ m (tabOf Y) e a k : Nat) ∧ wr.ownsRow w.heap.size 3 1 vs k ((pwS m (tabOf Y) e a k).map (.int .i64)) ∧ Hid (Dis m (tabOf Y) e a k) ∧ Hid (pwK m (tabOf Y) e a g k = Z) ∧ Below w.heap.size w wr ∧ Blk wr w.heap.size 25 #[.int .i64 m, .int .i64 e, .slice (some ⟨b1, o1, none⟩) la ca, .slice (some ⟨b2, o2, none⟩) lb cb])
      case atStart => exact ⟨0, by omega, rfl, O1.out, Lib.hid fun i j _ hj => absurd hj (by omega), HZ, B1.out, K1.out⟩
      case round =>
        obtain ⟨k, hkg, rfl, hown, hdis, hpk, hb, hK⟩ := hrel
        have hsz := hb.size
        have BW := Lib.hid hb
        have KW := Lib.hid hK
        have RW := Lib.hid (HR0.out.next hb)
        have hk := dis_le SL.out hdis.out
        have hxl := SL.out k
        have SS := Lib.hid (show (tabOf Y) (seqZ m (tabOf Y) e a k * m + a) = seqZ m (tabOf Y) e a (k + 1) from rfl)
        have SP := Lib.hid (pwS_succ (m := m) (P := tabOf Y) (e := e) (a := a) (k := k))
        obtain ⟨A1, l1, q1, rfl, ow1, n1, n2⟩ := SliceOut.of_row (n := k) hown pwS_len (by omega)
        obtain rfl : k = l1 := by rw [← ow1.1, pwS_len]
        have OW := Lib.hid hown
        have IW := Lib.hid ow1.ints
        obtain ⟨c0, c1, c2, c3⟩ := blk4 KW.out
        have hds := hdis.out
        have hpk2 := hpk.out
        clear hb hK hown ow1
        cases hq : hasB (pwS m (tabOf Y) e a k) ((seqZ m (tabOf Y) e a k : Nat) : Int)
        · obtain ⟨g, rfl⟩ : ∃ g, gk = g + 1 := ⟨gk - 1, by omega⟩
          have HD := Lib.hid (dis_succ hds hq)
          have HP := Lib.hid ((pwK_no hq).symm.trans hpk2)
          have HQ := Lib.hid hq
          obtain ⟨x, hx⟩ : ∃ x, seqZ m (tabOf Y) e a k = x := ⟨_, rfl⟩
          rw [hx] at HQ hxl SS SP ⊢
          clear hds hpk2 hq hx c0 c1 c2 c3
          obtain ⟨c0, c1, c2, c3⟩ := blk4 KW.out
          go_wp2_with (first
            | (go_at_call 76; refine (pHas_any _ k _ _ _ _ wr.heap.size IW.out (by omega)).mono ?_; rintro e2 w2 ⟨rfl, rfl⟩; rw [HQ.out])
            | (at_builtin; refine wpList_append_own _ rfl _ _ 23 rfl w.heap.size 3 i0 (.int .i64 0) 1 8 Try.underlying23 hi hz0 hz1 hz2 rfl (by decide) _ _ _ rfl (OW.out.alloc _) ⟨wr.heap.size, 0, none⟩ 1 1 [.int .i64 x] rfl rfl (by intro i u hi; match i, hi with | 0, hi => simp at hi; subst hi; simp [Addr.add]) (by intro u hu; simp at hu; subst hu; rfl) (by unfold maxLen; omega) (by omega) (by simp; omega) ?_; intro v5 w5 hown5 hg5 _; have kp := append_keeps KW.out OW.out (by decide) hg5 hsz; have B5 := Lib.hid (BW.out.trans kp.2.1); have K5 := Lib.hid kp.1; have O5 := Lib.hid (show w5.ownsRow w.heap.size 3 1 v5 (k + 1) ((pwS m (tabOf Y) e a (k + 1)).map (.int .i64)) by rw [SP.out]; simpa using hown5); clear hown5 hg5 kp c0 c1 c2 c3; obtain ⟨c0, c1, c2, c3⟩ := blk4 K5.out)
            | (go_at_call 51; refine (l1Mul_any x a m e b1 o1 la ca b2 o2 lb cb (tabOf X) (tabOf Y) _ (HR0.out.next B5.out) hxl la').mono ?_; rintro e3 w3 ⟨rfl, hb3⟩; have B6 := Lib.hid (below_step B5.out hb3); have K6 := Lib.hid (K5.out.next hb3); have O6 := Lib.hid (own_nextK O5.out hb3); clear hb3))
          go_roundg g
          case measure => omega
          case rel => exact ⟨k + 1, by omega, by rw [SS.out], O6.out, HD, HP, B6.out, K6.out⟩
        · have HP := Lib.hid ((pwK_yes hq).symm.trans hpk2)
          have HQ := Lib.hid hq
          clear hds hpk2 hq
          go_wp2_with (go_at_call 76; refine (pHas_any _ k _ _ _ _ wr.heap.size IW.out (by omega)).mono ?_; rintro e2 w2 ⟨rfl, rfl⟩; rw [HQ.out])
          go_ret
          exact ⟨_, rfl, by rw [hz.out, ← HP.out]; exact SliceOut.of_row OW.out pwS_len (by omega), BW.out⟩

end Go.Proofs.Ytlcpbdbdiahmjaa

