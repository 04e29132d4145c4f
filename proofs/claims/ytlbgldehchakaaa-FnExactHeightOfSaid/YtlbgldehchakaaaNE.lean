/- Texts of this seat in one: HA HC HB. -/
import Derived.Test.YtlbgldehchakaaaMN
import Derived.Test.YtlbgldehchakaaaMO
import Derived.Test.YtlbgldehchakaaaND

/- Plain facts: products of nilpotents. No program in sight. -/
namespace Go.Proofs.Ytlbgldehchakaaa
open Go.RowKit

/-- The nilpotents. -/
def nilP (m : Nat) (P : Nat → Nat) (e : Nat) (x : Nat) : Bool := decide (x < m) && kindB m P e 2 x
/-- The products of k + 1 of them. -/
noncomputable def pwP (m : Nat) (P : Nat → Nat) (e : Nat) : Nat → Nat → Bool
  | 0 => nilP m P e
  | k + 1 => opsB m P (pwP m P e k) (nilP m P e)
/-- How often to go on till all products are 0. -/
noncomputable def hgF (m : Nat) (P : Nat → Nat) (e : Nat) : Nat → Nat → Nat
  | 0, k => k
  | f + 1, k => if propB (pwP m P e k = mulB m P 0) = true then k else hgF m P e f (k + 1)

section
variable {m e : Nat} {S P : Nat → Nat} {p q : Nat → Bool}
theorem RTab.nilP_iff (R : RTab m S P e) (hm' : m ≤ 16) {x : Nat} : nilP m P e x = true ↔ x < m ∧ NilAt m P e x := by
  unfold nilP
  rw [Bool.and_eq_true, decide_eq_true_iff]
  constructor
  · rintro ⟨h1, h2⟩
    exact ⟨h1, (R.nilB_iff hm' h1).1 h2⟩
  · rintro ⟨h1, h2⟩
    exact ⟨h1, (R.nilB_iff hm' h1).2 h2⟩
theorem RTab.nilP_idl (R : RTab m S P e) (hm' : m ≤ 16) : Idl m S P (nilP m P e) where
  lt := fun _ h => ((R.nilP_iff hm').1 h).1
  z := (R.nilP_iff hm').2 ⟨R.hm, R.nil_zero⟩
  s := fun i j hi hj => by
    obtain ⟨i1, i2⟩ := (R.nilP_iff hm').1 hi
    obtain ⟨j1, j2⟩ := (R.nilP_iff hm').1 hj
    exact (R.nilP_iff hm').2 ⟨R.sc i1 j1, R.nil_add i1 j1 i2 j2⟩
  t := fun i j hi hj => by
    obtain ⟨i1, i2⟩ := (R.nilP_iff hm').1 hi
    exact (R.nilP_iff hm').2 ⟨R.pc i1 hj, R.nil_mul i1 hj i2⟩
theorem RTab.T00 (R : RTab m S P e) {a : Nat} (ha : a < m) : P (0 * m + a) = 0 := congrArg Fin.val (R.T0 ⟨a, ha⟩)
theorem RTab.mul0_iff (R : RTab m S P e) {x : Nat} : mulB m P 0 x = true ↔ x = 0 := by
  rw [mulB_iff]
  constructor
  · rintro ⟨y, hy, rfl⟩; exact R.T00 hy
  · rintro rfl; exact ⟨0, R.hm, R.T00 R.hm⟩
theorem RTab.pwP_lt (R : RTab m S P e) (hm' : m ≤ 16) : ∀ k i, pwP m P e k i = true → i < m
  | 0, i, h => (R.nilP_idl hm').lt i h
  | k + 1, i, h => by
    obtain ⟨x, y, hx, hy, rfl⟩ := opsB_iff.1 h
    exact R.pc (R.pwP_lt hm' k x hx) ((R.nilP_idl hm').lt y hy)
theorem RTab.pwP_z (R : RTab m S P e) (hm' : m ≤ 16) : ∀ k, pwP m P e k 0 = true
  | 0 => (R.nilP_idl hm').z
  | k + 1 => opsB_iff.2 ⟨0, 0, R.pwP_z hm' k, (R.nilP_idl hm').z, R.T00 R.hm⟩
/-- What a nilpotent leaves as it is is 0. -/
theorem RTab.nil_fix (R : RTab m S P e) (hm' : m ≤ 16) {x t : Nat} (hx : x < m) (ht : nilP m P e t = true) (h : P (x * m + t) = x) : x = 0 := by
  obtain ⟨h1, k, hk⟩ := (R.nilP_iff hm').1 ht
  have key : ∀ j, P (x * m + seqZ m P e t j) = x := fun j => by
    induction j with
    | zero => exact R.M11 hx
    | succ j ih =>
      have e1 : seqZ m P e t (j + 1) = P (seqZ m P e t j * m + t) := rfl
      rw [e1, ← R.Mas hx (R.pw_lt h1 j) h1, ih, h]
  have := key k
  rw [hk, R.M00 hx] at this
  exact this.symm
/-- A product of k + 1 nilpotents that is not 0 has k + 1 partial products. -/
theorem RTab.pwP_chain (R : RTab m S P e) (hm' : m ≤ 16) : ∀ k x, pwP m P e k x = true → x ≠ 0 → ∃ L : List Nat, L.length = k + 1 ∧ L.Nodup ∧ ∀ y ∈ L, y < m ∧ y ≠ 0 ∧ (x = y ∨ ∃ t, nilP m P e t = true ∧ x = P (y * m + t))
  | 0, x, h, hx => ⟨[x], rfl, by simp, fun y hy => by
      rw [List.mem_singleton] at hy
      subst hy
      exact ⟨(R.nilP_idl hm').lt y h, hx, .inl rfl⟩⟩
  | k + 1, x', h, hx' => by
    obtain ⟨x, n, hx, hn, rfl⟩ := opsB_iff.1 h
    have N := R.nilP_idl hm'
    have xm := R.pwP_lt hm' k x hx
    have nm := N.lt n hn
    have x0 : x ≠ 0 := fun e0 => hx' (by rw [e0]; exact R.T00 nm)
    obtain ⟨L, h1, h2, h3⟩ := R.pwP_chain hm' k x hx x0
    have step : ∀ y ∈ L, ∃ t, nilP m P e t = true ∧ P (x * m + n) = P (y * m + t) := fun y hy => by
      obtain ⟨y1, y2, y3⟩ := h3 y hy
      rcases y3 with rfl | ⟨t, ht, rfl⟩
      · exact ⟨n, hn, rfl⟩
      · exact ⟨P (t * m + n), N.t t n ht nm, R.Mas y1 (N.lt t ht) nm⟩
    refine ⟨P (x * m + n) :: L, by simp [h1], List.nodup_cons.2 ⟨fun hin => ?_, h2⟩, fun y hy => ?_⟩
    · obtain ⟨t, ht, e1⟩ := step _ hin
      exact hx' (R.nil_fix hm' (R.pc xm nm) ht e1.symm)
    · rcases List.mem_cons.1 hy with rfl | hy
      · exact ⟨R.pc xm nm, hx', .inl rfl⟩
      · exact ⟨(h3 y hy).1, (h3 y hy).2.1, .inr (step y hy)⟩
theorem RTab.pwP_short (R : RTab m S P e) (hm' : m ≤ 16) {k : Nat} (h : pwP m P e k ≠ mulB m P 0) : k + 2 ≤ m := by
  have hx : ∃ x, pwP m P e k x = true ∧ x ≠ 0 := Classical.byContradiction fun hc => h (bool_ext fun i => by
    rw [R.mul0_iff]
    constructor
    · intro hi
      exact Classical.byContradiction fun h0 => hc ⟨i, hi, h0⟩
    · rintro rfl; exact R.pwP_z hm' k)
  obtain ⟨x, h1, h2⟩ := hx
  obtain ⟨L, l1, l2, l3⟩ := R.pwP_chain hm' k x h1 h2
  have := (List.nodup_cons.2 ⟨fun h0 => (l3 0 h0).2.1 rfl, l2⟩ : (0 :: L).Nodup).length_le_of_subset (l₂ := List.range m) (fun y hy => by
    rcases List.mem_cons.1 hy with rfl | hy
    · exact List.mem_range.2 R.hm
    · exact List.mem_range.2 (l3 y hy).1)
  rw [List.length_range, List.length_cons, l1] at this
  omega
theorem hgF_yes {f k : Nat} (h : pwP m P e k = mulB m P 0) : hgF m P e f k = k := by
  cases f with
  | zero => rfl
  | succ f => exact if_pos (propB_iff.2 h)
theorem hgF_no {f k : Nat} (h : pwP m P e k ≠ mulB m P 0) : hgF m P e (f + 1) k = hgF m P e f (k + 1) := if_neg fun h' => h (propB_iff.1 h')
/-- The ideals of the products. -/
theorem RTab.pwI_zero (R : RTab m S P e) (hm' : m ≤ 16) : genB m S P (pwP m P e 0) = nilP m P e := gen_self (R.nilP_idl hm')
theorem RTab.pwI_succ (R : RTab m S P e) (hm' : m ≤ 16) (k : Nat) : genB m S P (opsB m P (genB m S P (pwP m P e k)) (nilP m P e)) = genB m S P (pwP m P e (k + 1)) := by
  have N := R.nilP_idl hm'
  have hl := R.pwP_lt hm' k
  have hl' := R.pwP_lt hm' (k + 1)
  refine gen_eq R.gen_idl (fun i h => ?_) fun i h => ?_
  · obtain ⟨x, y, hx, hy, rfl⟩ := opsB_iff.1 h
    have J : Idl m S P (fun z => decide (z < m) && propB (∀ y, nilP m P e y = true → genB m S P (pwP m P e (k + 1)) (P (z * m + y)) = true)) := by
      have key : ∀ {z}, (decide (z < m) && propB (∀ y, nilP m P e y = true → genB m S P (pwP m P e (k + 1)) (P (z * m + y)) = true)) = true ↔ z < m ∧ ∀ y, nilP m P e y = true → genB m S P (pwP m P e (k + 1)) (P (z * m + y)) = true := by
        intro z
        rw [Bool.and_eq_true, decide_eq_true_iff, propB_iff]
      refine ⟨fun i h => (key.1 h).1, key.2 ⟨R.hm, fun y hy => by rw [R.T00 (N.lt y hy)]; exact (R.gen_idl).z⟩, fun i j hi hj => ?_, fun i j hi hj => ?_⟩
      · obtain ⟨i1, i2⟩ := key.1 hi
        obtain ⟨j1, j2⟩ := key.1 hj
        refine key.2 ⟨R.sc i1 j1, fun y hy => ?_⟩
        have ym := N.lt y hy
        rw [R.Mcs (R.sc i1 j1) ym, R.Md ym i1 j1, R.Mcs ym i1, R.Mcs ym j1]
        exact (R.gen_idl).s _ _ (i2 y hy) (j2 y hy)
      · obtain ⟨i1, i2⟩ := key.1 hi
        refine key.2 ⟨R.pc i1 hj, fun y hy => ?_⟩
        have ym := N.lt y hy
        rw [R.Mas i1 hj ym, R.Mcs hj ym, ← R.Mas i1 ym hj]
        exact (R.gen_idl).t _ j (i2 y hy) hj
    have := gen_le J (fun i hi => by
      rw [Bool.and_eq_true, decide_eq_true_iff, propB_iff]
      exact ⟨hl i hi, fun y hy => gen_ge hl' (opsB_iff.2 ⟨i, y, hi, hy, rfl⟩)⟩) hx
    rw [Bool.and_eq_true, decide_eq_true_iff, propB_iff] at this
    exact this.2 y hy
  · refine gen_le R.gen_idl (fun i h => ?_) h
    obtain ⟨x, y, hx, hy, rfl⟩ := opsB_iff.1 h
    exact gen_ge (fun i h => by
      obtain ⟨x, y, hx, hy, rfl⟩ := opsB_iff.1 h
      exact R.pc (gen_lt hx) (N.lt y hy)) (opsB_iff.2 ⟨x, y, gen_ge hl hx, hy, rfl⟩)
/-- It has one element only where all products are 0. -/
theorem RTab.pwI_len (R : RTab m S P e) (hm' : m ≤ 16) (k : Nat) : (lstP m (genB m S P (pwP m P e k))).length ≤ 1 ↔ pwP m P e k = mulB m P 0 := by
  have hl := R.pwP_lt hm' k
  have len : ∀ {q : Nat → Bool}, (lstP m q).length = (finN (selTo m q m)).length := by
    intro q; rw [lst_len]; unfold finN; rw [List.length_map]
  have hnd : ∀ {q : Nat → Bool}, (finN (selTo m q m)).Nodup := by
    intro q
    unfold finN
    have h2 := selTo_nodup m (p := q) (Nat.le_refl m)
    unfold List.Nodup at h2 ⊢
    rw [List.pairwise_map]
    exact h2.imp fun h e => h (Fin.ext e)
  rw [len]
  constructor
  · intro h
    refine bool_ext fun i => ?_
    rw [R.mul0_iff]
    constructor
    · intro hi
      refine Classical.byContradiction fun h0 => ?_
      have := (List.nodup_cons.2 ⟨by simpa using fun e : 0 = i => h0 e.symm, by simp⟩ : [0, i].Nodup).length_le_of_subset (l₂ := finN (selTo m (genB m S P (pwP m P e k)) m)) (fun y hy => by
        rcases List.mem_cons.1 hy with rfl | hy
        · exact lst_in.2 ⟨R.hm, (R.gen_idl).z⟩
        · rw [List.mem_singleton] at hy
          subst hy
          exact lst_in.2 ⟨hl y hi, gen_ge hl hi⟩)
      simp only [List.length_cons, List.length_nil] at this
      omega
    · rintro rfl; exact R.pwP_z hm' k
  · intro h
    rw [h, gen_self (R.mul_idl R.hm)]
    have := (hnd (q := mulB m P 0)).length_le_of_subset (l₂ := [0]) (fun y hy => by
      rw [lst_in, R.mul0_iff] at hy
      simp [hy.2])
    simpa using this
end
end Go.Proofs.Ytlbgldehchakaaa


/- HeightOf of the reading side. -/
namespace Go.Proofs.Ytlbgldehchakaaa
open Go.RowKit Go.Shelf
set_option maxRecDepth 100000

/-- How many nilpotents each product of which is 0; -1 if it is no ring. -/
noncomputable def hgtV (n o : Int) (X Y : List Int) : Int := @ite _ (validB n o X Y = true) (Classical.propDecidable _) ((hgF n.toNat (tabOf Y) o.toNat 17 0 + 1 : Nat) : Int) (-1)
theorem hgt_no {n o : Int} {X Y : List Int} (h : ¬ validB n o X Y = true) : hgtV n o X Y = -1 := @if_neg _ (Classical.propDecidable _) h _ _ _
theorem hgt_yes {m e : Nat} {X Y : List Int} (h : validB m e X Y = true) : hgtV m e X Y = ((hgF m (tabOf Y) e 17 0 + 1 : Nat) : Int) := @if_pos _ (Classical.propDecidable _) h _ _ _
theorem nil_list {m e : Nat} {P : Nat → Nat} : finI (selTo m (kindB m P e 2) m) = lstP m (nilP m P e) := lst_congr fun i hi => by unfold nilP; rw [decide_eq_true hi]; rfl
theorem hgt_step {m e : Nat} {X Y : List Int} (hv : validB m e X Y = true) (hm' : m ≤ 16) (k : Nat) : twoI m e X Y (lstP m (genB m (tabOf X) (tabOf Y) (pwP m (tabOf Y) e k))) (lstP m (nilP m (tabOf Y) e)) = true ∧
    prdL m e X Y (lstP m (genB m (tabOf X) (tabOf Y) (pwP m (tabOf Y) e k))) (lstP m (nilP m (tabOf Y) e)) = lstP m (genB m (tabOf X) (tabOf Y) (pwP m (tabOf Y) e (k + 1))) := by
  have R := rtab_of_valid hv
  have ht := two_yes (isId_of hv (R.gen_idl (p := pwP m (tabOf Y) e k))) (isId_of hv (R.nilP_idl hm'))
  refine ⟨ht, ?_⟩
  unfold prdL
  rw [fromL_yes ht, Int.toNat_natCast, setL_lst (fun _ h => gen_lt h), setL_lst (R.nilP_idl hm').lt, R.pwI_succ hm' k]

set_option maxHeartbeats 8000000 in
theorem shgt_any (n o : Int) (A B : Option Addr) (la ca lb cb : Nat) (X Y : List Int) (w : World) (hX : Ints w w.heap.size A la X) (hY : Ints w w.heap.size B lb Y) (hla : la ≤ 9223372036854775807) (hlb : lb ≤ 9223372036854775807) (hca : la ≤ ca) (hcb : lb ≤ cb) :
    Calls Try.prog 23 #[.agg #[.int .i64 n, .int .i64 o, .slice A la ca, .slice B lb cb]] w fun e' w' => e' = .returned (.int .i64 (hgtV n o X Y)) ∧ Below w.heap.size w w' := by
  obtain ⟨W, hW⟩ : ∃ W, w.alloc (.cells #[.int .i64 n, .int .i64 o, .slice A la ca, .slice B lb cb] 27) = W := ⟨_, rfl⟩
  have k0 : Blk W w.heap.size 27 #[.int .i64 n, .int .i64 o, .slice A la ca, .slice B lb cb] := by
    subst hW; exact Blk.new w _ _
  have b0 : Below w.heap.size w W := by
    subst hW; exact (Below.refl _ _).alloc (Nat.le_refl _) _
  obtain ⟨c0, c1, c2, c3⟩ := blk4 k0
  have HX := Lib.hid (hX.next b0)
  have HY := Lib.hid (hY.next b0)
  have K0 := Lib.hid k0
  have B0 := Lib.hid b0
  have HW := Lib.hid hW
  clear k0 hW
  cases hv : validB n o X Y
  · have hz := Lib.hid (hgt_no (n := n) (o := o) (X := X) (Y := Y) (by rw [hv]; simp))
    have HV := Lib.hid hv
    clear hX hY b0 hv
    go_enter Try.func23, Try.ntmps23
    go_wp2_with (fail)
    rw [HW.out]
    refine (specValid_any n o A B la ca lb cb X Y W HX.out HY.out hla hlb hca hcb).mono ?_
    rw [HV.out]
    rintro e1 w1 ⟨rfl, hb1⟩
    have B1 := Lib.hid (below_step B0.out hb1)
    clear hb1 c0 c1 c2 c3
    go_wp2
    go_ret
    exact ⟨by rw [hz.out]; rfl, B1.out⟩
  · obtain ⟨m, e, b1, o1, b2, o2, rfl, rfl, rfl, rfl, hr, _, _, _, _, _⟩ := valid_data hv hX hY hca hcb
    have HV := Lib.hid hv
    have hz := Lib.hid (hgt_yes hv)
    have RR := Lib.hid (rtab_of_valid hv)
    have hk := Lib.hid (kindsL_yes (k := 2) hv)
    have hm' := hr.hm'
    have hm := hr.hm
    clear hX hY b0 hv hr
    go_enter Try.func23, Try.ntmps23
    go_wp2_with (fail)
    rw [HW.out]
    refine (specValid_any m e _ _ la ca lb cb X Y W HX.out HY.out hla hlb hca hcb).mono ?_
    rw [HV.out]
    rintro e1 w1 ⟨rfl, hb1⟩
    have B1 := Lib.hid (below_step B0.out hb1)
    have K1 := Lib.hid (K0.out.next hb1)
    have HX1 := Lib.hid (HX.out.next hb1)
    have HY1 := Lib.hid (HY.out.next hb1)
    obtain ⟨d0, d1, d2, d3⟩ := blk4 K1.out
    clear hb1 c0 c1 c2 c3
    go_wp2_with (fail)
    refine (skind2_any m e _ _ la ca lb cb X Y w1 HX1.out HY1.out hla hlb hca hcb).mono ?_
    rintro e2 w2 ⟨v, rfl, ho, hb2⟩
    obtain ⟨A1, len, q1, rfl, ow1, n1, n2⟩ := ho
    have HN := Lib.hid (show Ints w2 w2.heap.size A1 len (lstP m (nilP m (tabOf Y) e)) by have := ow1.ints; rwa [hk.out, nil_list] at this)
    have B2 := Lib.hid (below_step B1.out hb2)
    have K2 := Lib.hid (K1.out.next hb2)
    have HX2 := Lib.hid (HX1.out.next hb2)
    have HY2 := Lib.hid (HY1.out.next hb2)
    have HI0 := Lib.hid (show Ints w2 w2.heap.size A1 len (lstP m (genB m (tabOf X) (tabOf Y) (pwP m (tabOf Y) e 0))) by rw [RR.out.pwI_zero hm']; exact HN.out)
    obtain ⟨H, hH⟩ : ∃ H, hgF m (tabOf Y) e 17 0 = H := ⟨_, rfl⟩
    have HH := Lib.hid hH
    clear hb2 ow1 d0 d1 d2 d3 hH
    go_wp2
    go_loopg [3, 5] 17 (fun g2 vn vb wr => ∃ (k f l c : Nat) (C : Option Addr), k ≤ 16 ∧ 17 ≤ k + g2 ∧ f + k = 17 ∧ hgF m (tabOf Y) e f k = H ∧ vn = .int .i64 ((k + 1 : Nat) : Int) ∧ vb = .slice C l c ∧ Ints wr wr.heap.size C l (lstP m (genB m (tabOf X) (tabOf Y) (pwP m (tabOf Y) e k))) ∧ l ≤ 16 ∧ Below w2.heap.size w2 wr)
    case atStart => exact ⟨0, 17, len, q1, A1, by omega, by omega, rfl, HH.out, rfl, rfl, HI0.out, by rw [← HI0.out.1]; exact Nat.le_trans lst_le hm', Below.refl _ _⟩
    case round =>
      obtain ⟨k, f, l, c, C, hk16, hg2, hfk, hHk, rfl, rfl, hI, hl16, hb⟩ := hrel
      have hsz := hb.size
      have BW := Lib.hid hb
      have HIW := Lib.hid hI
      have HHK := Lib.hid hHk
      have HNW := Lib.hid (HN.out.next hb)
      have HXW := Lib.hid (HX2.out.next hb)
      have HYW := Lib.hid (HY2.out.next hb)
      have KW := Lib.hid (K2.out.next hb)
      have HL := Lib.hid hI.1
      obtain ⟨d0, d1, d2, d3⟩ := blk4 KW.out
      clear hb hI hHk
      by_cases hl1 : l ≤ 1
      · have hlt : ¬ (1 : Int) < (l : Int) := by omega
        have HE := Lib.hid ((hgF_yes (f := f) ((RR.out.pwI_len hm' k).1 (by rw [HL.out]; exact hl1))).symm.trans HHK.out)
        clear d0 d1 d2 d3
        go_wp2
        go_ret
        exact ⟨by rw [hz.out, HH.out, ← HE.out]; rfl, below_step B2.out BW.out⟩
      · have hlt : (1 : Int) < (l : Int) := by omega
        have hne : pwP m (tabOf Y) e k ≠ mulB m (tabOf Y) 0 := fun h => hl1 (by rw [← HL.out]; exact (RR.out.pwI_len hm' k).2 h)
        have hsh := RR.out.pwP_short hm' hne
        obtain ⟨f', rfl⟩ : ∃ f', f = f' + 1 := ⟨f - 1, by omega⟩
        have HHK2 := Lib.hid ((hgF_no (f := f') hne).symm.trans HHK.out)
        have HST := Lib.hid (hgt_step HV.out hm' k)
        have hn16 : len ≤ 16 := by rw [← HNW.out.1]; exact Nat.le_trans lst_le hm'
        clear hne
        go_wp2_with (fail)
        refine (sprdI_any m e _ _ C A1 la ca lb cb l len c q1 X Y _ _ wr HXW.out HYW.out HIW.out HNW.out hla hlb (by omega) (by omega) hca hcb).mono ?_
        rw [HST.out.1, HST.out.2]
        rintro e3 w3 ⟨v3, rfl, ho3, hb3⟩
        obtain ⟨A3, l3, q3, rfl, ow3, n3, n4⟩ := ho3
        have HI3 := Lib.hid ow3.ints
        have B3 := Lib.hid (below_step BW.out hb3)
        have h16 : l3 ≤ 16 := by rw [← HI3.out.1]; exact Nat.le_trans lst_le hm'
        clear hb3 ow3 d0 d1 d2 d3
        go_wp2
        go_roundg (17 - (k + 1))
        case measure => omega
        case rel => exact ⟨k + 1, f', l3, q3, A3, by omega, by omega, by omega, HHK2.out, by go_num, rfl, HI3.out, h16, B3.out⟩

end Go.Proofs.Ytlbgldehchakaaa


/- HeightOf of the program. -/
namespace Go.Proofs.Ytlbgldehchakaaa
open Go.RowKit Go.Shelf
set_option maxRecDepth 100000
attribute [local go_sem] Oper.semAt_some
attribute [local go_sem ↓] Go.wp_at_zero Go.wp_at_succ

theorem nil_set {m e : Nat} {P : Nat → Nat} : setA (finN (selTo m (kindB m P e 2) m)) = setP (nilP m P e) := by
  rw [setA_P]
  exact congrArg setP (bool_ext fun i => by
    rw [memB_iff, lst_in]
    unfold nilP
    rw [Bool.and_eq_true, decide_eq_true_iff])
theorem eq_zero {m : Nat} {p q : Nat → Bool} (hm' : m ≤ 16) (hp : ∀ i, p i = true → i < m) (hq : ∀ i, q i = true → i < m) : propB (∀ i, i < 16 → p i = q i) = true ↔ p = q := by
  rw [propB_iff]
  constructor
  · intro h
    refine bool_ext fun i => ?_
    by_cases hi : i < 16
    · rw [h i hi]
    · constructor
      · intro h1; have := hp i h1; omega
      · intro h1; have := hq i h1; omega
  · rintro rfl i _; rfl

set_option maxHeartbeats 8000000 in
theorem hgt_any (n o : Int) (A B : Option Addr) (la ca lb cb : Nat) (X Y : List Int) (w : World) (hX : Ints w w.heap.size A la X) (hY : Ints w w.heap.size B lb Y) (hla : la ≤ 9223372036854775807) (hlb : lb ≤ 9223372036854775807) (hca : la ≤ ca) (hcb : lb ≤ cb) :
    Calls Try.prog 24 #[.agg #[.int .i64 n, .int .i64 o, .slice A la ca, .slice B lb cb]] w fun e' w' => e' = .returned (.int .i64 (hgtV n o X Y)) ∧ Below w.heap.size w w' := by
  obtain ⟨W, hW⟩ : ∃ W, w.alloc (.cells #[.int .i64 n, .int .i64 o, .slice A la ca, .slice B lb cb] 27) = W := ⟨_, rfl⟩
  have k0 : Blk W w.heap.size 27 #[.int .i64 n, .int .i64 o, .slice A la ca, .slice B lb cb] := by
    subst hW; exact Blk.new w _ _
  have b0 : Below w.heap.size w W := by
    subst hW; exact (Below.refl _ _).alloc (Nat.le_refl _) _
  obtain ⟨c0, c1, c2, c3⟩ := blk4 k0
  have HX := Lib.hid (hX.next b0)
  have HY := Lib.hid (hY.next b0)
  have K0 := Lib.hid k0
  have B0 := Lib.hid b0
  have HW := Lib.hid hW
  clear k0 hW
  cases hv : validB n o X Y
  · have hz := Lib.hid (hgt_no (n := n) (o := o) (X := X) (Y := Y) (by rw [hv]; simp))
    have HV := Lib.hid hv
    clear hX hY b0 hv
    go_enter Try.func24, Try.ntmps24
    go_wp2_with (fail)
    rw [HW.out]
    refine (valid_any n o A B la ca lb cb X Y W HX.out HY.out hla hlb hca hcb).mono ?_
    rw [HV.out]
    rintro e1 w1 ⟨rfl, hb1⟩
    have B1 := Lib.hid (below_step B0.out hb1)
    clear hb1 c0 c1 c2 c3
    go_wp2
    go_ret
    exact ⟨by rw [hz.out]; rfl, B1.out⟩
  · obtain ⟨m, e, b1, o1, b2, o2, rfl, rfl, rfl, rfl, hr, _, _, _, _, _⟩ := valid_data hv hX hY hca hcb
    have HV := Lib.hid hv
    have hz := Lib.hid (hgt_yes hv)
    have R := rtab_of_valid hv
    have RR := Lib.hid R
    have HR0 := Lib.hid hr
    have HR := Lib.hid (hr.next b0)
    have hm' := hr.hm'
    have hm := hr.hm
    have hPl : ∀ k, k < m * m → tabOf Y k < m := fun k hk => (hr.tp.2 k hk).2
    have HPL := Lib.hid hPl
    obtain ⟨N, hN⟩ : ∃ N, nilP m (tabOf Y) e = N := ⟨_, rfl⟩
    have hnl : ∀ i, N i = true → i < m := by rw [← hN]; exact (R.nilP_idl hm').lt
    have HNL := Lib.hid hnl
    have HN := Lib.hid hN
    have hin := set_info (setP_size (p := N))
    have hon := setP_one (p := N)
    have holdn : (#[.bool false, .bool false, .bool false, .bool false, .bool false, .bool false, .bool false, .bool false, .bool false, .bool false, .bool false, .bool false, .bool false, .bool false, .bool false, .bool false] : Array Value).size = (setP N).size := by rw [setP_size]; rfl
    have EGW := Lib.hid (enters_of Try.func144 (by kernel_rfl) rfl)
    have EGP := Lib.hid (enters_of Try.func59 (by kernel_rfl) rfl)
    obtain ⟨H, hH⟩ : ∃ H, hgF m (tabOf Y) e 17 0 = H := ⟨_, rfl⟩
    have HH := Lib.hid hH
    clear hX hY b0 hv hr hPl hnl hN hH R
    go_enter Try.func24, Try.ntmps24
    go_wp2_with (fail)
    rw [HW.out]
    refine (valid_any m e _ _ la ca lb cb X Y W HX.out HY.out hla hlb hca hcb).mono ?_
    rw [HV.out]
    rintro e1 w1 ⟨rfl, hb1⟩
    have B1 := Lib.hid (below_step B0.out hb1)
    have K1 := Lib.hid (K0.out.next hb1)
    have R1 := Lib.hid (HR.out.next hb1)
    obtain ⟨d0, d1, d2, d3⟩ := blk4 K1.out
    clear hb1 c0 c1 c2 c3
    go_wp2_with (fail)
    refine (ofKind_any 2 m e _ _ la ca lb cb w1 (by decide)).mono ?_
    rintro e2 w2 ⟨Br, Bp, rfl, _, _, hB1, hB2, hb2⟩
    have B2 := Lib.hid (below_step B1.out hb2)
    have K2 := Lib.hid (K1.out.next hb2)
    have R2 := Lib.hid (R1.out.next hb2)
    have SQ := Lib.hid (ofKind_seq m e b1 o1 la ca b2 o2 lb cb (tabOf X) (tabOf Y) w2 R2.out (by decide) hB1 hB2)
    clear hb2 hB1 hB2 d0 d1 d2 d3
    go_wp2_with (fail)
    refine (setOf_any m _ w2.heap.size m _ _ _ w2 hm' EGW.out SQ.out (Nat.le_refl _)).mono ?_
    rw [nil_set, HN.out]
    rintro e3 w3 ⟨rfl, hb3⟩
    have B3 := Lib.hid (below_step B2.out hb3)
    have K3 := Lib.hid (K2.out.next hb3)
    have s3 := B3.out.size
    have l3 := K3.out.lt
    clear hb3
    obtain ⟨g1, hg1⟩ : ∃ g, w3.heap.size = g := ⟨_, rfl⟩
    have KN1 : Blk (w3.alloc (.cells #[.bool false, .bool false, .bool false, .bool false, .bool false, .bool false, .bool false, .bool false, .bool false, .bool false, .bool false, .bool false, .bool false, .bool false, .bool false, .bool false] 56)) g1 56 #[.bool false, .bool false, .bool false, .bool false, .bool false, .bool false, .bool false, .bool false, .bool false, .bool false, .bool false, .bool false, .bool false, .bool false, .bool false, .bool false] := by rw [← hg1]; exact Blk.new _ _ _
    go_upto_region 4 with (refine wpList_store_row rfl 56 (.tmp 3) (.tmp 11) rfl g1 (setP N) rfl rfl _ _ KN1 hin holdn hon ?_)
    obtain ⟨V1, hV1⟩ : ∃ V1, (w3.alloc (.cells #[.bool false, .bool false, .bool false, .bool false, .bool false, .bool false, .bool false, .bool false, .bool false, .bool false, .bool false, .bool false, .bool false, .bool false, .bool false, .bool false] 56)).setRow g1 (setP N) = V1 := ⟨_, rfl⟩
    have bV1 : Below w3.heap.size w3 V1 := by subst hV1 hg1; exact set_row.2
    have kV1 : Blk V1 g1 56 (setP N) := by subst hV1 hg1; exact set_row.1
    rw [hV1]
    have B4 := Lib.hid (below_step B3.out bV1)
    have K4 := Lib.hid (K3.out.next bV1)
    have G1 := Lib.hid kV1
    have lg1 := kV1.lt
    have hwg : w.heap.size < g1 := by omega
    clear hV1 bV1 kV1 KN1 hg1
    obtain ⟨g2, hg2⟩ : ∃ g, V1.heap.size = g := ⟨_, rfl⟩
    have KN2 : Blk (V1.alloc (.cells #[.bool false, .bool false, .bool false, .bool false, .bool false, .bool false, .bool false, .bool false, .bool false, .bool false, .bool false, .bool false, .bool false, .bool false, .bool false, .bool false] 56)) g2 56 #[.bool false, .bool false, .bool false, .bool false, .bool false, .bool false, .bool false, .bool false, .bool false, .bool false, .bool false, .bool false, .bool false, .bool false, .bool false, .bool false] := by rw [← hg2]; exact Blk.new _ _ _
    go_wp2_with (first
      | (refine wpList_load_row rfl 56 (.tmp 3) rfl g1 rfl _ (setP N) (0, 0) _ G1.out Try.underlying56 rfl hin ?_)
      | (refine wpList_store_row rfl 56 (.tmp 5) (.tmp 12) rfl g2 (setP N) rfl rfl _ _ KN2 hin holdn hon ?_))
    obtain ⟨V2, hV2⟩ : ∃ V2, (V1.alloc (.cells #[.bool false, .bool false, .bool false, .bool false, .bool false, .bool false, .bool false, .bool false, .bool false, .bool false, .bool false, .bool false, .bool false, .bool false, .bool false, .bool false] 56)).setRow g2 (setP N) = V2 := ⟨_, rfl⟩
    have bV2 : Below V1.heap.size V1 V2 := by subst hV2 hg2; exact set_row.2
    have kV2 : Blk V2 g2 56 (setP N) := by subst hV2 hg2; exact set_row.1
    rw [hV2]
    have B5 := Lib.hid (below_step B4.out bV2)
    have K5 := Lib.hid (K4.out.next bV2)
    have H5 := Lib.hid (G1.out.next bV2)
    have G2 := Lib.hid kV2
    have hgg : g1 < g2 := by omega
    clear hV2 bV2 kV2 KN2 hg2
    go_simp
    go_loopg [4, 5] 17 (fun g9 vn vp wr => ∃ (k f g : Nat), k ≤ 16 ∧ 17 ≤ k + g9 ∧ f + k = 17 ∧ hgF m (tabOf Y) e f k = H ∧ vn = .int .i64 ((k + 1 : Nat) : Int) ∧ vp = .pointer (some ⟨g, 0, none⟩) ∧ g1 < g ∧ Blk wr g 56 (setP (pwP m (tabOf Y) e k)) ∧ Blk wr g1 56 (setP N) ∧ Blk wr w.heap.size 27 #[.int .i64 m, .int .i64 e, .slice (some ⟨b1, o1, none⟩) la ca, .slice (some ⟨b2, o2, none⟩) lb cb] ∧ Below w.heap.size w wr)
    case atStart => exact ⟨0, 17, g2, by omega, by omega, rfl, HH.out, rfl, rfl, hgg, by show Blk V2 g2 56 (setP (nilP m (tabOf Y) e)); rw [HN.out]; exact G2.out, H5.out, K5.out, B5.out⟩
    case round =>
      obtain ⟨k, f, g, hk16, hg9, hfk, hHk, rfl, rfl, hgk, hG, hG1, hK, hb⟩ := hrel
      have BW := Lib.hid hb
      have HHK := Lib.hid hHk
      have KW := Lib.hid hK
      have N1 := Lib.hid hG1
      have HRW := Lib.hid (HR0.out.next hb)
      obtain ⟨p, hp⟩ : ∃ p, pwP m (tabOf Y) e k = p := ⟨_, rfl⟩
      rw [hp] at hG
      have GW := Lib.hid hG
      have JI := Lib.hid hG.inC
      have hpl : ∀ i, p i = true → i < m := by rw [← hp]; exact RR.out.pwP_lt hm' k
      have HPP := Lib.hid hp
      have hip := set_info (setP_size (p := p))
      obtain ⟨d0, d1, d2, d3⟩ := blk4 KW.out
      have heq : ∀ w, (Op.equalIn 10000 56 (.agg (setP p)) (.agg (setP (mulB m (tabOf Y) 0)))).run Try.prog w = .ok (propB (∀ i, i < 16 → p i = mulB m (tabOf Y) 0 i)) w := eq_setP
      have hiff := eq_zero hm' hpl (RR.out.mul_idl hm).lt
      have HPLp := Lib.hid hpl
      clear hb hHk hK hG1 hp hG hpl
      cases ht : propB (∀ i, i < 16 → p i = mulB m (tabOf Y) 0 i)
      · have hne : pwP m (tabOf Y) e k ≠ mulB m (tabOf Y) 0 := fun h => by
          rw [HPP.out] at h
          rw [hiff.2 h] at ht
          exact absurd ht (by simp)
        rw [ht] at heq
        have hsh := RR.out.pwP_short hm' hne
        obtain ⟨f', rfl⟩ : ∃ f', f = f' + 1 := ⟨f - 1, by omega⟩
        have HHK2 := Lib.hid ((hgF_no (f := f') hne).symm.trans HHK.out)
        clear hne ht hiff
        go_upto_region 6 with (fail)
        refine wp_region_ext (by kernel_rfl) (by kernel_rfl) ?_
        repeat (first
          | (refine wpQuiet_load_rowG rfl 56 (.tmp 5) rfl g rfl _ (setP p) _ JI.out Try.underlying56 rfl hip ?_; go_simp)
          | (go_big_quiet_step ((go_at_call 64; exact calls_ext (multiples_any 0 m e b1 o1 la ca b2 o2 lb cb (tabOf X) (tabOf Y) _ (HRW.out.next (ext_below _ _)) hm)))))
        refine wpQuiet_nil ?_
        intro w5 hb5
        have B6 := Lib.hid (below_step BW.out hb5)
        have K6 := Lib.hid (KW.out.next hb5)
        have N6 := Lib.hid (N1.out.next hb5)
        have G6 := Lib.hid (GW.out.next hb5)
        have HR6 := Lib.hid (HRW.out.next hb5)
        clear hb5 heq d0 d1 d2 d3
        obtain ⟨d0, d1, d2, d3⟩ := blk4 K6.out
        obtain ⟨U, hU⟩ : ∃ U, setP (pwP m (tabOf Y) e (k + 1)) = U := ⟨_, rfl⟩
        have hs1 : U.size = 16 := by rw [← hU, setP_size]
        have hs2 : U.all (·.oneCell') = true := by rw [← hU]; exact setP_one
        have hiU := set_info hs1
        have holdU : (setP p).size = U.size := by rw [hs1, setP_size]
        have holdZ : (#[.bool false, .bool false, .bool false, .bool false, .bool false, .bool false, .bool false, .bool false, .bool false, .bool false, .bool false, .bool false, .bool false, .bool false, .bool false, .bool false] : Array Value).size = U.size := by rw [hs1]; rfl
        have HU := Lib.hid (show setP (opsB m (tabOf Y) p N) = U by rw [← hU, ← HPP.out, ← HN.out]; rfl)
        have HU' := Lib.hid hU
        clear hs1 hU
        go_wp2_with (first
          | (refine wpList_load_row rfl 56 (.tmp 5) rfl g rfl _ (setP p) (0, 0) _ G6.out Try.underlying56 rfl hip ?_)
          | (refine wpList_load_row rfl 56 (.tmp 3) rfl g1 rfl _ (setP N) (0, 0) _ N6.out Try.underlying56 rfl hin ?_))
        refine (pairwise_any (tabOf Y) 59 p N m e b1 o1 la ca b2 o2 lb cb (tabOf X) (tabOf Y) w5 HR6.out HPLp.out HNL.out HPL.out EGP.out (fun a b V ha hb hV => product_any a b m e b1 o1 la ca b2 o2 lb cb (tabOf X) (tabOf Y) V (HR6.out.next hV) ha hb)).mono ?_
        rw [HU.out]
        rintro e6 w6 ⟨rfl, hb6⟩
        have B7 := Lib.hid (below_step B6.out hb6)
        have K7 := Lib.hid (K6.out.next hb6)
        have N7 := Lib.hid (N6.out.next hb6)
        have G7 := Lib.hid (G6.out.next hb6)
        clear hb6 d0 d1 d2 d3
        go_upto_region 9 with (refine wpList_store_row rfl 56 (.tmp 5) (.tmp 24) rfl g U rfl rfl _ _ G7.out hiU holdU hs2 ?_)
        obtain ⟨V3, hV3⟩ : ∃ V3, w6.setRow g U = V3 := ⟨_, rfl⟩
        have B8 := Lib.hid (show Below w.heap.size w V3 by subst hV3; exact below_setRow B7.out (by omega) U)
        have K8 := Lib.hid (show Blk V3 w.heap.size 27 #[.int .i64 m, .int .i64 e, .slice (some ⟨b1, o1, none⟩) la ca, .slice (some ⟨b2, o2, none⟩) lb cb] by subst hV3; exact K7.out.rowFar (by omega) U)
        have N8 := Lib.hid (show Blk V3 g1 56 (setP N) by subst hV3; exact N7.out.rowFar (by omega) U)
        have G8 := Lib.hid (show Blk V3 g 56 U by subst hV3; exact G7.out.rowTo U)
        rw [hV3]
        have lg8 := N8.out.lt
        clear hV3
        obtain ⟨g3, hg3⟩ : ∃ g, V3.heap.size = g := ⟨_, rfl⟩
        have KN3 : Blk (V3.alloc (.cells #[.bool false, .bool false, .bool false, .bool false, .bool false, .bool false, .bool false, .bool false, .bool false, .bool false, .bool false, .bool false, .bool false, .bool false, .bool false, .bool false] 56)) g3 56 #[.bool false, .bool false, .bool false, .bool false, .bool false, .bool false, .bool false, .bool false, .bool false, .bool false, .bool false, .bool false, .bool false, .bool false, .bool false, .bool false] := by rw [← hg3]; exact Blk.new _ _ _
        go_upto_region 7 with (first
          | (refine wpList_load_row rfl 56 (.tmp 5) rfl g rfl _ U (0, 0) _ G8.out Try.underlying56 rfl hiU ?_)
          | (refine wpList_store_row rfl 56 (.tmp 5) (.tmp 25) rfl g3 U rfl rfl _ _ KN3 hiU holdZ hs2 ?_))
        obtain ⟨V4, hV4⟩ : ∃ V4, (V3.alloc (.cells #[.bool false, .bool false, .bool false, .bool false, .bool false, .bool false, .bool false, .bool false, .bool false, .bool false, .bool false, .bool false, .bool false, .bool false, .bool false, .bool false] 56)).setRow g3 U = V4 := ⟨_, rfl⟩
        have bV4 : Below V3.heap.size V3 V4 := by subst hV4 hg3; exact below_setRow ((Below.refl _ _).alloc (Nat.le_refl _) _) (Nat.le_refl _) _
        have kV4 : Blk V4 g3 56 U := by subst hV4 hg3; exact (Blk.new V3 56 #[.bool false, .bool false, .bool false, .bool false, .bool false, .bool false, .bool false, .bool false, .bool false, .bool false, .bool false, .bool false, .bool false, .bool false, .bool false, .bool false]).rowTo _
        rw [hV4]
        have B9 := Lib.hid (below_step B8.out bV4)
        have K9 := Lib.hid (K8.out.next bV4)
        have N9 := Lib.hid (N8.out.next bV4)
        have G9 := Lib.hid kV4
        have hg13 : g1 < g3 := by omega
        clear hV4 bV4 kV4 KN3 hg3
        go_wp2
        go_roundg (17 - (k + 1))
        case measure => omega
        case rel => exact ⟨k + 1, f', g3, by omega, by omega, by omega, HHK2.out, by go_num, rfl, hg13, by rw [HU'.out]; exact G9.out, N9.out, K9.out, B9.out⟩
      · have hey := hiff.1 ht
        rw [ht] at heq
        have HE := Lib.hid ((hgF_yes (f := f) (HPP.out.trans hey)).symm.trans HHK.out)
        clear ht hiff hey
        go_upto_region 6 with (fail)
        refine wp_region_ext (by kernel_rfl) (by kernel_rfl) ?_
        repeat (first
          | (refine wpQuiet_load_rowG rfl 56 (.tmp 5) rfl g rfl _ (setP p) _ JI.out Try.underlying56 rfl hip ?_; go_simp)
          | (go_big_quiet_step ((go_at_call 64; exact calls_ext (multiples_any 0 m e b1 o1 la ca b2 o2 lb cb (tabOf X) (tabOf Y) _ (HRW.out.next (ext_below _ _)) hm)))))
        refine wpQuiet_nil ?_
        intro w5 hb5
        have B6 := Lib.hid (below_step BW.out hb5)
        clear hb5 heq d0 d1 d2 d3
        go_wp2
        go_ret
        exact ⟨by rw [hz.out, HH.out, ← HE.out]; rfl, B6.out⟩

end Go.Proofs.Ytlbgldehchakaaa
