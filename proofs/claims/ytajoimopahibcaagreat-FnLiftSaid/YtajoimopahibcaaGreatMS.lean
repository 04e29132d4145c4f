/- Texts of this seat in one: PR PS. -/
import Derived.Test.YtajoimopahibcaaGreatMQ
import Derived.Test.YtajoimopahibcaaGreatMR

/- LiftIdeal of the reading side. -/
namespace Go.Proofs.YtajoimopahibcaaGreat
open Go.RowKit Go.Shelf
set_option maxRecDepth 100000

/-- Whether a list is an ideal of the quotient. -/
noncomputable def quB (n o : Int) (X Y L K : List Int) : Bool := isIdB (qN n.toNat (tabOf X) (setL L) : Int) (namK n.toNat (tabOf X) (setL L) n.toNat o.toNat : Int) (numL (qN n.toNat (tabOf X) (setL L) * qN n.toNat (tabOf X) (setL L)) (quoF n.toNat (tabOf X) (setL L) (tabOf X))) (numL (qN n.toNat (tabOf X) (setL L) * qN n.toNat (tabOf X) (setL L)) (quoF n.toNat (tabOf X) (setL L) (tabOf Y))) K
noncomputable def lftB (n o : Int) (X Y L K : List Int) : Bool := isIdB n o X Y L && quB n o X Y L K
/-- The elements whose classes are in an ideal of the quotient. -/
noncomputable def abvB (m : Nat) (S : Nat → Nat) (p q : Nat → Bool) : Nat → Bool := fun i => q (namK m S p m i)
noncomputable def lftL (n o : Int) (X Y L K : List Int) : List Int := if lftB n o X Y L K = true then lstP n.toNat (fun i => abvB n.toNat (tabOf X) (setL L) (setL K) i && decide (i < n.toNat)) else []
theorem lft_yes {n o : Int} {X Y L K : List Int} (h : lftB n o X Y L K = true) : lftL n o X Y L K = lstP n.toNat (fun i => abvB n.toNat (tabOf X) (setL L) (setL K) i && decide (i < n.toNat)) := if_pos h
theorem lft_no {n o : Int} {X Y L K : List Int} (h : lftB n o X Y L K = false) : lftL n o X Y L K = [] := if_neg (by rw [h]; simp)
theorem lft_no1 {n o : Int} {X Y L K : List Int} (h : isIdB n o X Y L = false) : lftB n o X Y L K = false := by unfold lftB; rw [h]; rfl
theorem lft_eq {n o : Int} {X Y L K : List Int} (h : isIdB n o X Y L = true) : lftB n o X Y L K = quB n o X Y L K := by unfold lftB; rw [h]; rfl
theorem quB_at {m e : Nat} {X Y L K : List Int} {p : Nat → Bool} (hp : setL L = p) : quB m e X Y L K = isIdB (qN m (tabOf X) p : Int) (namK m (tabOf X) p m e : Int) (numL (qN m (tabOf X) p * qN m (tabOf X) p) (quoF m (tabOf X) p (tabOf X))) (numL (qN m (tabOf X) p * qN m (tabOf X) p) (quoF m (tabOf X) p (tabOf Y))) K := by
  unfold quB; rw [hp]; rfl
/-- The lists of a new ring. -/
theorem NewRing.ints {D k : Nat} {w : World} {v : Value} {n o : Int} {X Y : List Int} (h : NewRing D w v n o k X Y) (hk : k ≤ 1048570) (hX : X.length = k) (hY : Y.length = k) : ∃ A c2 B c3, v = .agg #[.int .i64 n, .int .i64 o, .slice A k c2, .slice B k c3] ∧ Ints w w.heap.size A k X ∧ Ints w w.heap.size B k Y ∧ k ≤ c2 ∧ k ≤ c3 := by
  obtain ⟨v2, v3, rfl, h2, h3, _⟩ := h
  obtain ⟨A, l2, c2, rfl, hA, hc2, _⟩ := SliceOut.of_row h2 hX hk
  obtain ⟨B, l3, c3, rfl, hB, hc3, _⟩ := SliceOut.of_row h3 hY hk
  have e2 := hA.ints.1.symm.trans hX
  have e3 := hB.ints.1.symm.trans hY
  subst e2
  rw [e3] at hB hc3
  exact ⟨A, c2, B, c3, by rw [e3], hA.ints, hB.ints, hc2, hc3⟩

set_option maxHeartbeats 8000000 in
theorem slft_any (n o : Int) (A B C D : Option Addr) (la ca lb cb len len' cap cap' : Nat) (X Y L K : List Int) (w : World) (hX : Ints w w.heap.size A la X) (hY : Ints w w.heap.size B lb Y) (hL : Ints w w.heap.size C len L) (hK : Ints w w.heap.size D len' K) (hla : la ≤ 9223372036854775807) (hlb : lb ≤ 9223372036854775807) (hlen : len ≤ 9223372036854775807) (hlen' : len' ≤ 9223372036854775807) (hca : la ≤ ca) (hcb : lb ≤ cb) :
    Calls Tryz.prog 35 #[.agg #[.int .i64 n, .int .i64 o, .slice A la ca, .slice B lb cb], .slice C len cap, .slice D len' cap'] w fun e' w' => ∃ v, e' = .returned (.tuple #[v, .bool (lftB n o X Y L K)]) ∧ SliceOut w.heap.size w' v (lftL n o X Y L K) ∧ Below w.heap.size w w' := by
  obtain ⟨i0, hi, hz0, hz1, hz2⟩ := info_parts int_info
  obtain ⟨W, hW⟩ : ∃ W, w.alloc (.cells #[.int .i64 n, .int .i64 o, .slice A la ca, .slice B lb cb] 25) = W := ⟨_, rfl⟩
  have k0 : Blk W w.heap.size 25 #[.int .i64 n, .int .i64 o, .slice A la ca, .slice B lb cb] := by
    subst hW; exact Blk.new w _ _
  have b0 : Below w.heap.size w W := by
    subst hW; exact (Below.refl _ _).alloc (Nat.le_refl _) _
  obtain ⟨c0, c1, c2, c3⟩ := blk4 k0
  have HX0 := Lib.hid hX
  have HY0 := Lib.hid hY
  have HL0 := Lib.hid hL
  have HK0 := Lib.hid hK
  have B0 := Lib.hid b0
  have HW := Lib.hid hW
  have K0 := Lib.hid k0
  have hs0 := k0.lt
  clear hX hY hL hK b0 hW k0
  cases hl : isIdB n o X Y L
  · have hz := Lib.hid (lft_no1 (K := K) hl)
    have HLL := Lib.hid hl
    clear hl
    go_enter Tryz.func35, Tryz.ntmps35
    go_wp2_with (fail)
    rw [HW.out]
    refine (squo_no n o A B C la ca lb cb len cap X Y L W HLL.out (HX0.out.next B0.out) (HY0.out.next B0.out) (HL0.out.next B0.out) hla hlb hlen hca hcb).mono ?_
    rintro e1 w1 ⟨⟨g, rfl, _, _⟩, hb1⟩
    have B1 := Lib.hid (below_step B0.out hb1)
    have sz1 := B1.out.size
    clear hb1 c0 c1 c2 c3
    go_upto_region 3 with (fail)
    obtain ⟨V, hV⟩ : ∃ V, (w1.alloc (.cells #[.int .i64 0, .int .i64 0, .slice none 0 0, .slice none 0 0] 25)) = V := ⟨_, rfl⟩
    have bV : Below w1.heap.size w1 V := by subst hV; exact (Below.refl _ _).alloc (Nat.le_refl _) _
    have sV : V.heap.size = w1.heap.size + 1 := by subst hV; simp
    rw [hV]
    have B2 := Lib.hid (below_step B1.out bV)
    have O2 := Lib.hid (show (V.alloc (.cells #[] 3)).ownsRow w.heap.size 3 1 (.slice (some ⟨w1.heap.size + 1, 0, none⟩) 0 0) 0 [] by have := own_lit_K (w := V) (base := w.heap.size) (e := 3) [] B2.out.size (by unfold maxLen; simp); rw [sV] at this; simpa using this)
    clear bV hV
    go_wp2
    go_ret2
    refine ⟨_, by rw [hz.out]; rfl, ?_, B2.out.alloc B2.out.size _⟩
    rw [lft_no hz.out]
    exact SliceOut.of_row (n := 0) O2.out rfl (by omega)
  · obtain ⟨m, e, b1, o1, b2, o2, rfl, rfl, rfl, rfl, hr, _, _, _, _, _⟩ := valid_data (ide_data (isId_ide hl)).1 HX0.out HY0.out hca hcb
    obtain ⟨hv, hpI, hpL⟩ := isId_data hl
    have R := rtab_of_valid hv
    obtain ⟨p, hp⟩ : ∃ p, setL L = p := ⟨_, rfl⟩
    rw [hp] at hpL hpI
    have HPP := Lib.hid hp
    have HPI := Lib.hid hpI
    have HPL := Lib.hid hpL
    have HR0 := Lib.hid hr
    have hm' := hr.hm'
    have HLL := Lib.hid hl
    have n1 := R.cnt_pos hpI
    have nm : qN m (tabOf X) p ≤ m := cnt_le
    have HB1 := Lib.hid ((lft_eq (K := K) hl).trans (quB_at (K := K) (Y := Y) (m := m) (e := e) hp))
    clear hpL hp hr hv hpI hl
    obtain ⟨qn, hqn⟩ : ∃ x, qN m (tabOf X) p = x := ⟨_, rfl⟩
    have HQN := Lib.hid hqn
    obtain ⟨en, hen⟩ : ∃ x, namK m (tabOf X) p m e = x := ⟨_, rfl⟩
    obtain ⟨XS, hXS⟩ : ∃ x, numL (qn * qn) (quoF m (tabOf X) p (tabOf X)) = x := ⟨_, rfl⟩
    obtain ⟨XP, hXP⟩ : ∃ x, numL (qn * qn) (quoF m (tabOf X) p (tabOf Y)) = x := ⟨_, rfl⟩
    have lS : XS.length = qn * qn := by rw [← hXS, numL_len]
    have lP : XP.length = qn * qn := by rw [← hXP, numL_len]
    have lS2 := Lib.hid lS
    have lP2 := Lib.hid lP
    have q256 : qn * qn ≤ 1048570 := by rw [hqn] at nm; have := Nat.mul_le_mul (Nat.le_trans nm hm') (Nat.le_trans nm hm'); omega
    have HB2 := Lib.hid (HB1.out.trans (by rw [hqn, hen, hXS, hXP] : _ = isIdB (qn : Int) (en : Int) XS XP K))
    have SQ : ∀ (w' : World), Ints w' w'.heap.size (some ⟨b1, o1, none⟩) la X → Ints w' w'.heap.size (some ⟨b2, o2, none⟩) lb Y → Ints w' w'.heap.size C len L → RingAt w' m e b1 o1 la ca b2 o2 lb cb (tabOf X) (tabOf Y) → Calls Tryz.prog 25 #[.agg #[.int .i64 m, .int .i64 e, .slice (some ⟨b1, o1, none⟩) la ca, .slice (some ⟨b2, o2, none⟩) lb cb], .slice C len cap] w' fun e' w2 => ∃ v g, e' = .returned (.tuple #[v, .slice (some ⟨g, 0, none⟩) m m, .bool true]) ∧ NewRing w'.heap.size w2 v qn en (qn * qn) XS XP ∧ w'.heap.size ≤ g ∧ Blk w2 g 3 (rowP m (namK m (tabOf X) p m)) ∧ Below w'.heap.size w' w2 := fun w' h1 h2 h3 h4 => by
      have := squo_yes C len cap X Y L p m e b1 o1 la ca b2 o2 lb cb w' h4 HLL.out R HPI.out HPL.out h1 h2 h3 hla hlb hlen hca hcb
      rw [hqn, hen, hXS, hXP] at this
      exact this
    have SQ := Lib.hid SQ
    clear hqn hen hXS hXP lS lP HB1
    cases hk : isIdB (qn : Int) (en : Int) XS XP K
    · have hz := Lib.hid (HB2.out.trans hk)
      have HKK := Lib.hid hk
      clear hk
      go_enter Tryz.func35, Tryz.ntmps35
      go_wp2_with (fail)
      rw [HW.out]
      refine (SQ.out W (HX0.out.next B0.out) (HY0.out.next B0.out) (HL0.out.next B0.out) (HR0.out.next B0.out)).mono ?_
      rintro e1 w1 ⟨v1, g, rfl, hN, hg, hkn, hb1⟩
      obtain ⟨A2, c2', A3, c3', rfl, i2, i3, lc2, lc3⟩ := hN.ints q256 lS2.out lP2.out
      have B1 := Lib.hid (below_step B0.out hb1)
      have sz1 := B1.out.size
      have I2 := Lib.hid i2
      have I3 := Lib.hid i3
      clear hb1 c0 c1 c2 c3 hkn hg hN i2 i3
      go_upto_region 3 with (fail)
      obtain ⟨V, hV⟩ : ∃ V, w1.alloc (.cells #[.int .i64 (qn : Int), .int .i64 (en : Int), .slice A2 (qn * qn) c2', .slice A3 (qn * qn) c3'] 25) = V := ⟨_, rfl⟩
      have bV : Below w1.heap.size w1 V := by subst hV; exact (Below.refl _ _).alloc (Nat.le_refl _) _
      have sV : V.heap.size = w1.heap.size + 1 := by subst hV; simp
      have kV : Blk V w1.heap.size 25 #[.int .i64 (qn : Int), .int .i64 (en : Int), .slice A2 (qn * qn) c2', .slice A3 (qn * qn) c3'] := by subst hV; exact Blk.new w1 _ _
      rw [hV]
      obtain ⟨U, hU⟩ : ∃ U, V.alloc (.cells #[] 3) = U := ⟨_, rfl⟩
      have bU : Below V.heap.size V U := by subst hU; exact (Below.refl _ _).alloc (Nat.le_refl _) _
      have oU : U.ownsRow w.heap.size 3 1 (.slice (some ⟨w1.heap.size + 1, 0, none⟩) 0 0) 0 [] := by
        subst hU
        have := own_lit_K (w := V) (base := w.heap.size) (e := 3) [] (by omega) (by unfold maxLen; simp)
        rw [sV] at this
        simpa using this
      rw [hU]
      have bb := below_step bV bU
      have B2 := Lib.hid (below_step B1.out bb)
      have O2 := Lib.hid oU
      have J2 := Lib.hid (I2.out.next bb)
      have J3 := Lib.hid (I3.out.next bb)
      obtain ⟨c0, c1, c2, c3⟩ := blk4 (kV.next bU)
      clear bV hV bU hU oU bb kV sV
      go_wp2_with (go_at_call 44; refine (sisId_val HKK.out J2.out J3.out (HK0.out.next B2.out) (by omega) (by omega) hlen' lc2 lc3).mono ?_; rintro e3 w3 ⟨rfl, hb3⟩; have B3 := Lib.hid (below_step B2.out hb3); have O3 := Lib.hid (own_nextK O2.out hb3); clear hb3)
      go_ret2
      refine ⟨_, by rw [hz.out]; rfl, ?_, B3.out⟩
      rw [lft_no hz.out]
      exact SliceOut.of_row (n := 0) O3.out rfl (by omega)
    · have hz := Lib.hid (HB2.out.trans hk)
      obtain ⟨_, hqI, hqL⟩ := isId_data hk
      obtain ⟨q, hq⟩ : ∃ q, setL K = q := ⟨_, rfl⟩
      rw [hq] at hqL hqI
      have hql := hqI.lt
      have HK1 := Lib.hid (show Ints w w.heap.size D len' (lstP qn q) by rw [← hqL]; exact HK0.out)
      have HKK := Lib.hid hk
      have HZL := Lib.hid (show lftL m e X Y L K = lstP m (fun i => abvB m (tabOf X) p q i && decide (i < m)) by rw [lft_yes hz.out, Int.toNat_natCast, HPP.out, hq])
      obtain ⟨j, hj⟩ : ∃ j, (fun i => abvB m (tabOf X) p q i && decide (i < m)) = j := ⟨_, rfl⟩
      have HJ := Lib.hid (show ∀ k, k < m → j k = q (namK m (tabOf X) p m k) from fun k hk => by rw [← hj]; simp [abvB, hk])
      rw [hj] at HZL
      clear hk hqI hqL hq hj
      go_enter Tryz.func35, Tryz.ntmps35
      go_wp2_with (fail)
      rw [HW.out]
      refine (SQ.out W (HX0.out.next B0.out) (HY0.out.next B0.out) (HL0.out.next B0.out) (HR0.out.next B0.out)).mono ?_
      rintro e1 w1 ⟨v1, g, rfl, hN, hg, hkn, hb1⟩
      obtain ⟨A2, c2', A3, c3', rfl, i2, i3, lc2, lc3⟩ := hN.ints q256 lS2.out lP2.out
      have B1 := Lib.hid (below_step B0.out hb1)
      have sz1 := B1.out.size
      have KN1 := Lib.hid hkn
      have lg := hkn.lt
      have I2 := Lib.hid i2
      have I3 := Lib.hid i3
      clear hb1 c0 c1 c2 c3 hkn hg hN i2 i3
      go_upto_region 3 with (fail)
      obtain ⟨Bs, hBs⟩ : ∃ Bs, w1.heap.size + 1 = Bs := ⟨_, rfl⟩
      obtain ⟨V, hV⟩ : ∃ V, w1.alloc (.cells #[.int .i64 (qn : Int), .int .i64 (en : Int), .slice A2 (qn * qn) c2', .slice A3 (qn * qn) c3'] 25) = V := ⟨_, rfl⟩
      have bV : Below w1.heap.size w1 V := by subst hV; exact (Below.refl _ _).alloc (Nat.le_refl _) _
      have sV : V.heap.size = Bs := by subst hV hBs; simp
      have kV : Blk V w1.heap.size 25 #[.int .i64 (qn : Int), .int .i64 (en : Int), .slice A2 (qn * qn) c2', .slice A3 (qn * qn) c3'] := by subst hV; exact Blk.new w1 _ _
      rw [hV, hBs]
      obtain ⟨U, hU⟩ : ∃ U, V.alloc (.cells #[] 3) = U := ⟨_, rfl⟩
      have bU : Below V.heap.size V U := by subst hU; exact (Below.refl _ _).alloc (Nat.le_refl _) _
      have oU : U.ownsRow Bs 3 1 (.slice (some ⟨Bs, 0, none⟩) 0 0) 0 [] := by
        subst hU
        have := own_lit_K (w := V) (base := Bs) (e := 3) [] (by omega) (by unfold maxLen; simp)
        rw [sV] at this
        simpa using this
      rw [hU]
      have bb := below_step bV bU
      have B2 := Lib.hid (below_step B1.out bb)
      have O2 := Lib.hid oU
      have J2 := Lib.hid (I2.out.next bb)
      have J3 := Lib.hid (I3.out.next bb)
      have KN2 := Lib.hid (KN1.out.next bb)
      have sU : Bs ≤ U.heap.size := by rw [← sV]; exact bU.size
      obtain ⟨c0, c1, c2, c3⟩ := blk4 (kV.next bU)
      have lBs : w1.heap.size < Bs := by omega
      clear bV hV bU hU oU bb kV sV hBs
      go_wp2_with (go_at_call 44; refine (sisId_val HKK.out J2.out J3.out (HK0.out.next B2.out) (by omega) (by omega) hlen' lc2 lc3).mono ?_; rintro e3 w3 ⟨rfl, hb3⟩; have B3 := Lib.hid (below_step B2.out hb3); have O3 := Lib.hid (own_nextK O2.out hb3); have KN3 := Lib.hid (KN2.out.next hb3); have sU3 := hb3.size; clear hb3 c0 c1 c2 c3)
      have s3 : Bs ≤ w3.heap.size := by omega
      have HK3 := Lib.hid (HK1.out.next B3.out)
      go_loopg [11, 33] m (fun g2 vs vi wr => ∃ k : Nat, k ≤ m ∧ m ≤ k + g2 ∧ vi = .int .i64 k ∧ wr.ownsRow Bs 3 1 vs (selTo m j k).length (finV (selTo m j k)) ∧ Below Bs w3 wr)
      case atStart => exact ⟨0, Nat.zero_le _, by omega, rfl, O3.out, Below.refl _ _⟩
      case round =>
        obtain ⟨k, hk, hg2, rfl, hown, hb⟩ := hrel
        have hsz := hb.size
        have OW := Lib.hid hown
        have BW := Lib.hid hb
        have hln := selTo_len (m := m) (p := j) k
        clear hown hb
        by_cases hlt : k < m
        · have hcn := (((KN3.out.below BW.out (show g < Bs by omega))).cell k).trans (rowP_get hlt)
          have hjk := HJ.out k hlt
          obtain ⟨c, hc⟩ : ∃ c, namK m (tabOf X) p m k = c := ⟨_, rfl⟩
          rw [hc] at hcn hjk
          have HHL := Lib.hid (show ∀ (a b' : Option Addr), True from fun _ _ => trivial)
          have HKW := Lib.hid (HK0.out.next (B3.out.trans (BW.out.mono (show w.heap.size ≤ Bs by omega))))
          have HK1W := Lib.hid (HK1.out.next (B3.out.trans (BW.out.mono (show w.heap.size ≤ Bs by omega))))
          clear hc
          cases hqx : q c
          · have HQ := Lib.hid (selTo_no (m := m) (hjk.trans hqx))
            have HQX := Lib.hid hqx
            clear hqx hjk
            go_wp2_with (first
              | (go_at_call 45; refine (l4HasP_any _ len' cap' qn q c _ _ hql HK1W.out hlen').mono ?_; rw [HQX.out]; rintro e4 w4 ⟨rfl, rfl⟩))
            go_roundg (m - (k + 1))
            case measure => omega
            case rel => exact ⟨k + 1, by omega, by omega, by go_num, by rw [HQ.out]; exact OW.out, BW.out⟩
          · have HQ := Lib.hid (selTo_yes (m := m) hlt (hjk.trans hqx))
            have HQX := Lib.hid hqx
            have wr2 : Below wr.heap.size wr (wr.alloc (.cells #[.int .i64 (k : Int)] 3)) := (Below.refl _ _).alloc (Nat.le_refl _) _
            have hsz2 : Bs ≤ wr.heap.size := by omega
            clear hqx hjk
            go_wp2_with (first
              | (go_at_call 45; refine (l4HasP_any _ len' cap' qn q c _ _ hql HK1W.out hlen').mono ?_; rw [HQX.out]; rintro e4 w4 ⟨rfl, rfl⟩)
              | (at_builtin; refine wpList_append_own _ rfl _ _ 23 rfl Bs 3 i0 (.int .i64 0) 1 8 Tryz.underlying23 hi hz0 hz1 hz2 rfl (by decide) _ _ _ rfl (OW.out.alloc _) ⟨wr.heap.size, 0, none⟩ 1 1 [.int .i64 (k : Int)] rfl rfl (by intro i u hi; match i, hi with | 0, hi => simp at hi; subst hi; simp [Addr.add]) (by intro u hu; simp at hu; subst hu; rfl) (by unfold maxLen; omega) (by omega) (by simp; omega) ?_; intro v5 w5 hown5 hg5 _; have B5 := Lib.hid ((BW.out.trans (wr2.mono hsz2)).grown hg5 (Nat.le_trans hsz2 wr2.size) (fun k hk => (OW.out.lt k hk).1)); have O5 := Lib.hid (show w5.ownsRow Bs 3 1 v5 (selTo m j (k + 1)).length (finV (selTo m j (k + 1))) by rw [HQ.out]; simpa [finV] using hown5); clear hown5 hg5))
            go_roundg (m - (k + 1))
            case measure => omega
            case rel => exact ⟨k + 1, by omega, by omega, by go_num, O5.out, B5.out⟩
        · have hkm : k = m := by omega
          subst hkm
          go_wp2
          go_ret2
          refine ⟨_, by rw [hz.out]; rfl, ?_, B3.out.trans (BW.out.mono (by omega))⟩
          rw [HZL.out]
          exact (sel_out OW.out rfl (by omega)).down (by omega)

end Go.Proofs.YtajoimopahibcaaGreat



/- LiftIdeal of the program. -/
namespace Go.Proofs.YtajoimopahibcaaGreat
open Go.RowKit Go.Shelf
set_option maxRecDepth 100000

set_option maxHeartbeats 4000000 in
theorem lift1_any {m e b1 o1 la ca b2 o2 lb cb l bm : Nat} {vC : Value} {f : Nat → Option (Nat × Nat)} (gS gQ a c : Nat) (q : Nat → Bool) (w : World) (hS : Blk w gS 50 (setP q)) (hQ : Blk w gQ 82 #[.int .i64 m, .int .i64 e, .slice (some ⟨b1, o1, none⟩) la ca, .slice (some ⟨b2, o2, none⟩) lb cb, vC, .map (some bm)]) (hM : MapC 300 w bm f) (ha : a ≤ 1000000) (hf : f a = some (c, l)) (hc : c < 16) :
    Calls Tryz.prog 87 (#[.int .i64 a] ++ #[.pointer (some ⟨gS, 0, none⟩), .pointer (some ⟨gQ, 0, none⟩)]) w fun e' w' => e' = .returned (.bool (q c)) ∧ Below w.heap.size w w' := by
  show Calls Tryz.prog 87 #[.int .i64 a, .pointer (some ⟨gS, 0, none⟩), .pointer (some ⟨gQ, 0, none⟩)] w _
  have NW := Lib.hid (show ∀ x, MapC 300 x bm f → Calls Tryz.prog 88 #[.agg #[.int .i64 m, .int .i64 e, .slice (some ⟨b1, o1, none⟩) la ca, .slice (some ⟨b2, o2, none⟩) lb cb, vC, .map (some bm)], .int .i64 a] x fun e' w' => e' = .returned (.int .i64 c) ∧ Below x.heap.size x w' from fun x hx => qNumber_any (m := m) (e := e) (b1 := b1) (o1 := o1) (la := la) (ca := ca) (b2 := b2) (o2 := o2) (lb := lb) (cb := cb) (vC := vC) x hx ha hf)
  have HM := Lib.hid hM
  have HG := Lib.hid hS.inC
  have HQ := Lib.hid hQ.inC
  have hi := set_info (setP_size (p := q))
  have hi6 := z6_info (cs := #[.int .i64 m, .int .i64 e, .slice (some ⟨b1, o1, none⟩) la ca, .slice (some ⟨b2, o2, none⟩) lb cb, vC, .map (some bm)]) rfl
  clear hM hS hQ hf
  go_enter Tryz.func87, Tryz.ntmps87
  go_wp2
  refine wp_region_ext (by kernel_rfl) (by kernel_rfl) ?_
  repeat (first
    | (refine wpQuiet_load_row rfl 50 (.tmp 1) rfl gS rfl _ (setP q) _ HG.out Tryz.underlying50 rfl hi ?_; go_simp)
    | (refine wpQuiet_load_row rfl 82 (.tmp 2) rfl gQ rfl _ #[.int .i64 m, .int .i64 e, .slice (some ⟨b1, o1, none⟩) la ca, .slice (some ⟨b2, o2, none⟩) lb cb, vC, .map (some bm)] _ HQ.out Tryz.underlying82 rfl hi6 ?_; go_simp)
    | (go_big_quiet_step ((first
        | (go_at_call 88; exact calls_ext (NW.out _ (HM.out.next (ext_below _ _))))
        | (go_at_call 65; exact calls_ext (has2_any q c _ (by omega)))))))
  refine wpQuiet_nil ?_
  intro w2 hb2
  go_wp2
  go_ret
  exact ⟨rfl, hb2⟩

set_option maxHeartbeats 8000000 in
theorem lft_any (n o : Int) (A B C D : Option Addr) (la ca lb cb len len' cap cap' : Nat) (X Y L K : List Int) (w : World) (hX : Ints w w.heap.size A la X) (hY : Ints w w.heap.size B lb Y) (hL : Ints w w.heap.size C len L) (hK : Ints w w.heap.size D len' K) (hla : la ≤ 9223372036854775807) (hlb : lb ≤ 9223372036854775807) (hlen : len ≤ 9223372036854775807) (hlen' : len' ≤ 9223372036854775807) (hca : la ≤ ca) (hcb : lb ≤ cb) :
    Calls Tryz.prog 34 #[.agg #[.int .i64 n, .int .i64 o, .slice A la ca, .slice B lb cb], .slice C len cap, .slice D len' cap'] w fun e' w' => ∃ v, e' = .returned (.tuple #[v, .bool (lftB n o X Y L K)]) ∧ SliceOut w.heap.size w' v (lftL n o X Y L K) ∧ Below w.heap.size w w' := by
  obtain ⟨W, hW⟩ : ∃ W, w.alloc (.cells #[.int .i64 n, .int .i64 o, .slice A la ca, .slice B lb cb] 25) = W := ⟨_, rfl⟩
  have k0 : Blk W w.heap.size 25 #[.int .i64 n, .int .i64 o, .slice A la ca, .slice B lb cb] := by
    subst hW; exact Blk.new w _ _
  have b0 : Below w.heap.size w W := by
    subst hW; exact (Below.refl _ _).alloc (Nat.le_refl _) _
  obtain ⟨c0, c1, c2, c3⟩ := blk4 k0
  have HX0 := Lib.hid hX
  have HY0 := Lib.hid hY
  have HL0 := Lib.hid hL
  have HK0 := Lib.hid hK
  have B0 := Lib.hid b0
  have HW := Lib.hid hW
  have hs0 := k0.lt
  clear hX hY hL hK b0 hW k0
  cases hl : isIdB n o X Y L
  · have hz := Lib.hid (lft_no1 (K := K) hl)
    have HLL := Lib.hid hl
    clear hl
    go_enter Tryz.func34, Tryz.ntmps34
    go_wp2_with (fail)
    rw [HW.out]
    refine (quotientOf_no n o A B C la ca lb cb len cap X Y L W HLL.out (HX0.out.next B0.out) (HY0.out.next B0.out) (HL0.out.next B0.out) hla hlb hlen hca hcb).mono ?_
    rintro e1 w1 ⟨rfl, hb1⟩
    have B1 := Lib.hid (below_step B0.out hb1)
    have sz1 := B1.out.size
    clear hb1 c0 c1 c2 c3
    go_wp2
    go_ret2
    refine ⟨_, by rw [hz.out]; rfl, ?_, B1.out.alloc sz1 _⟩
    rw [lft_no hz.out]
    exact SliceOut.nil
  · obtain ⟨m, e, b1, o1, b2, o2, rfl, rfl, rfl, rfl, hr, _, _, _, _, _⟩ := valid_data (ide_data (isId_ide hl)).1 HX0.out HY0.out hca hcb
    obtain ⟨hv, hpI, hpL⟩ := isId_data hl
    have R := rtab_of_valid hv
    obtain ⟨p, hp⟩ : ∃ p, setL L = p := ⟨_, rfl⟩
    rw [hp] at hpL hpI
    have HPP := Lib.hid hp
    have HPI := Lib.hid hpI
    have HR0 := Lib.hid hr
    have hm' := hr.hm'
    have HLL := Lib.hid hl
    have nm : qN m (tabOf X) p ≤ m := cnt_le
    have HB1 := Lib.hid ((lft_eq (K := K) hl).trans (quB_at (K := K) (Y := Y) (m := m) (e := e) hp))
    clear hpL hp hr hv hpI hl
    obtain ⟨qn, hqn⟩ : ∃ x, qN m (tabOf X) p = x := ⟨_, rfl⟩
    obtain ⟨en, hen⟩ : ∃ x, namK m (tabOf X) p m e = x := ⟨_, rfl⟩
    obtain ⟨XS, hXS⟩ : ∃ x, numL (qn * qn) (quoF m (tabOf X) p (tabOf X)) = x := ⟨_, rfl⟩
    obtain ⟨XP, hXP⟩ : ∃ x, numL (qn * qn) (quoF m (tabOf X) p (tabOf Y)) = x := ⟨_, rfl⟩
    have lS : XS.length = qn * qn := by rw [← hXS, numL_len]
    have lP : XP.length = qn * qn := by rw [← hXP, numL_len]
    have lS2 := Lib.hid lS
    have lP2 := Lib.hid lP
    have nm2 : qn ≤ 16 := by rw [← hqn]; exact Nat.le_trans nm hm'
    have q256 : qn * qn ≤ 1048570 := by have := Nat.mul_le_mul nm2 nm2; omega
    have HN16 := Lib.hid (show ∀ k, k < m → namK m (tabOf X) p m k < 16 from fun k hk => Nat.lt_of_lt_of_le (R.nam_lt HPI.out hk) (show qN m (tabOf X) p ≤ 16 by rw [hqn]; exact nm2))
    have HB2 := Lib.hid (HB1.out.trans (by rw [hqn, hen, hXS, hXP] : _ = isIdB (qn : Int) (en : Int) XS XP K))
    have MQ : ∀ (D : Nat) (mv : Value) (w' : World), QSt m e b1 o1 la ca b2 o2 lb cb (tabOf X) p D w' mv → RingAt w' m e b1 o1 la ca b2 o2 lb cb (tabOf X) (tabOf Y) → Calls Tryz.prog 72 #[.iface 82 mv] w' fun e' w2 => ∃ v, e' = .returned v ∧ NewRing w'.heap.size w2 v qn en (qn * qn) XS XP ∧ Below w'.heap.size w' w2 := fun D mv w' h1 h2 => by
      have := made_quo h1 h2 R HPI.out
      rw [hqn, hen, hXS, hXP] at this
      exact this
    have MQ := Lib.hid MQ
    clear hqn hen hXS hXP lS lP HB1 nm
    obtain ⟨q, hq⟩ : ∃ q, idS (qn : Int) (en : Int) XS XP K = q := ⟨_, rfl⟩
    obtain ⟨bK, hbK⟩ : ∃ b, isIdB (qn : Int) (en : Int) XS XP K = b := ⟨_, rfl⟩
    have hz := Lib.hid (HB2.out.trans hbK)
    have HQI := Lib.hid hq
    have HBK := Lib.hid hbK
    have hip := set_info (setP_size (p := q))
    have hop := setP_one (p := q)
    have holdp : (#[.bool false, .bool false, .bool false, .bool false, .bool false, .bool false, .bool false, .bool false, .bool false, .bool false, .bool false, .bool false, .bool false, .bool false, .bool false, .bool false] : Array Value).size = (setP q).size := by rw [setP_size]; rfl
    clear hq hbK
    go_enter Tryz.func34, Tryz.ntmps34
    go_wp2_with (fail)
    rw [HW.out]
    refine (quotientOf_yes C len cap X Y L W p m e b1 o1 la ca b2 o2 lb cb HLL.out HPP.out (HR0.out.next B0.out) R HPI.out (HX0.out.next B0.out) (HY0.out.next B0.out) (HL0.out.next B0.out) hla hlb hlen hca hcb).mono ?_
    rintro e1 w1 ⟨mv, rfl, hQ, hb1⟩
    have HQ := Lib.hid hQ
    obtain ⟨vC, bm, rfl, hC, hM, _⟩ := hQ
    obtain ⟨AC, cC, rfl⟩ : ∃ A c, vC = .slice A (leas m (tabOf X) p m).length c := by
      rcases hC.2 with ⟨h1, h2⟩ | ⟨g, cap, cur, h1, _⟩
      · exact ⟨none, 0, by rw [h1, h2]⟩
      · exact ⟨_, _, h1⟩
    obtain ⟨nl, hnl⟩ : ∃ x, (leas m (tabOf X) p m).length = x := ⟨_, rfl⟩
    have B1 := Lib.hid (below_step B0.out hb1)
    have sz1 := B1.out.size
    have HM1 := Lib.hid hM
    rw [hnl] at HQ
    rw [hnl]
    unfold quoC at HQ ⊢
    clear hb1 c0 c1 c2 c3 hC hM hnl
    go_upto_region 4 with (fail)
    obtain ⟨gQ, hgQ⟩ : ∃ g, w1.heap.size = g := ⟨_, rfl⟩
    obtain ⟨V, hV⟩ : ∃ V, w1.alloc (.cells #[.int .i64 m, .int .i64 e, .slice (some ⟨b1, o1, none⟩) la ca, .slice (some ⟨b2, o2, none⟩) lb cb, .slice AC nl cC, .map (some bm)] 82) = V := ⟨_, rfl⟩
    have bV : Below w1.heap.size w1 V := by subst hV; exact (Below.refl _ _).alloc (Nat.le_refl _) _
    have kV : Blk V gQ 82 #[.int .i64 m, .int .i64 e, .slice (some ⟨b1, o1, none⟩) la ca, .slice (some ⟨b2, o2, none⟩) lb cb, .slice AC nl cC, .map (some bm)] := by subst hV hgQ; exact Blk.new w1 _ _
    rw [hV, hgQ]
    have B2 := Lib.hid (below_step B1.out bV)
    have Q2 := Lib.hid (HQ.out.next bV)
    have HM2 := Lib.hid (HM1.out.next bV)
    have KQ := Lib.hid kV
    have lQ := kV.lt
    have hi6 := z6_info (cs := #[.int .i64 m, .int .i64 e, .slice (some ⟨b1, o1, none⟩) la ca, .slice (some ⟨b2, o2, none⟩) lb cb, .slice AC nl cC, .map (some bm)]) rfl
    clear bV hV kV hgQ
    go_wp2_with (refine wpList_load_row rfl 82 (.tmp 8) rfl gQ rfl _ #[.int .i64 m, .int .i64 e, .slice (some ⟨b1, o1, none⟩) la ca, .slice (some ⟨b2, o2, none⟩) lb cb, .slice AC nl cC, .map (some bm)] (0, 0) _ KQ.out Tryz.underlying82 rfl hi6 ?_)
    refine (MQ.out _ _ V Q2.out (HR0.out.next B2.out)).mono ?_
    rintro e3 w3 ⟨v3, rfl, hN, hb3⟩
    obtain ⟨A2, c2', A3, c3', rfl, i2, i3, lc2, lc3⟩ := hN.ints q256 lS2.out lP2.out
    have I2 := Lib.hid i2
    have I3 := Lib.hid i3
    have B3 := Lib.hid (below_step B2.out hb3)
    have HM3 := Lib.hid (HM2.out.next hb3)
    have KQ3 := Lib.hid (KQ.out.next hb3)
    have s3 := hb3.size
    clear hb3 hN i2 i3
    go_wp2_with (fail)
    refine (idealSet_val HQI.out HBK.out I2.out I3.out (HK0.out.next B3.out) (by omega) (by omega) hlen' lc2 lc3).mono ?_
    rintro e4 w4 ⟨rfl, hb4⟩
    have B4 := Lib.hid (below_step B3.out hb4)
    have HM4 := Lib.hid (HM3.out.next hb4)
    have KQ4 := Lib.hid (KQ3.out.next hb4)
    have s4 := hb4.size
    clear hb4
    obtain ⟨g1, hg1⟩ : ∃ g1, w4.heap.size = g1 := ⟨_, rfl⟩
    have KN1 : Blk (w4.alloc (.cells #[.bool false, .bool false, .bool false, .bool false, .bool false, .bool false, .bool false, .bool false, .bool false, .bool false, .bool false, .bool false, .bool false, .bool false, .bool false, .bool false] 50)) g1 50 #[.bool false, .bool false, .bool false, .bool false, .bool false, .bool false, .bool false, .bool false, .bool false, .bool false, .bool false, .bool false, .bool false, .bool false, .bool false, .bool false] := by rw [← hg1]; exact Blk.new _ _ _
    go_upto_region 5 with (refine wpList_store_row rfl 50 (.tmp 10) (.tmp 26) rfl g1 (setP q) rfl rfl _ _ KN1 hip holdp hop ?_)
    obtain ⟨V5, hV5⟩ : ∃ V5, (w4.alloc (.cells #[.bool false, .bool false, .bool false, .bool false, .bool false, .bool false, .bool false, .bool false, .bool false, .bool false, .bool false, .bool false, .bool false, .bool false, .bool false, .bool false] 50)).setRow g1 (setP q) = V5 := ⟨_, rfl⟩
    have bV5 : Below w4.heap.size w4 V5 := by subst hV5 hg1; exact set_row.2
    have kV5 : Blk V5 g1 50 (setP q) := by subst hV5 hg1; exact set_row.1
    rw [hV5]
    have B5 := Lib.hid (below_step B4.out bV5)
    have HM5 := Lib.hid (HM4.out.next bV5)
    have KQ5 := Lib.hid (KQ4.out.next bV5)
    have G1 := Lib.hid kV5
    have s5 := kV5.lt
    clear hV5 bV5 kV5 KN1
    cases bK
    · go_wp2
      go_ret2
      exact ⟨.slice none 0 0, by rw [hz.out]; rfl, by rw [lft_no hz.out]; exact SliceOut.nil, B5.out⟩
    · have hsK : setL K = q := by rw [← HQI.out, idS_yes HBK.out]
      have HZL := Lib.hid (show lftL m e X Y L K = lstP m (fun i => abvB m (tabOf X) p q i && decide (i < m)) by rw [lft_yes hz.out, Int.toNat_natCast, HPP.out, hsK])
      obtain ⟨j, hj⟩ : ∃ j, (fun i => abvB m (tabOf X) p q i && decide (i < m)) = j := ⟨_, rfl⟩
      have HJ := Lib.hid (show ∀ k, k < m → j k = q (namK m (tabOf X) p m k) from fun k hk => by rw [← hj]; simp [abvB, hk])
      rw [hj] at HZL
      have EGR := Lib.hid (enters_of Tryz.func87 (by kernel_rfl) rfl)
      have EG := Lib.hid (enters_of Tryz.func106 (by kernel_rfl) rfl)
      have d0 := KQ5.out.cell 0
      have d1 := KQ5.out.cell 1
      have d2 := KQ5.out.cell 2
      have d3 := KQ5.out.cell 3
      simp only [List.getElem?_toArray, List.getElem?_cons_zero, List.getElem?_cons_succ] at d0 d1 d2 d3
      clear hj hsK
      go_wp2_with (fail)
      refine (where2_any m e _ _ la ca lb cb 87 #[.pointer (some ⟨g1, 0, none⟩), .pointer (some ⟨gQ, 0, none⟩)] V5).mono ?_
      rintro e6 w6 ⟨rfl, hB1, hB2, hb6⟩
      have G6 := Lib.hid (G1.out.next hb6)
      have KQ6 := Lib.hid (KQ5.out.next hb6)
      have HM6 := Lib.hid (HM5.out.next hb6)
      have B6 := Lib.hid (below_step B5.out hb6)
      have SQ := Lib.hid (where2_B w6.heap.size m _ j _ _ w6 hm' EGR.out hB1 rfl hB2 (Nat.le_refl _) (fun a ha V hV => by rw [HJ.out a ha]; exact lift1_any g1 gQ a _ q V (G6.out.next hV) (KQ6.out.next hV) (HM6.out.next hV) (by omega) (fm_some (R.don_all HPI.out ha)) (HN16.out a ha)))
      have hs6 := B6.out.size
      clear hb6 hB1 hB2 d0 d1 d2 d3
      go_wp2_with (go_at_call 67; refine (collect_any m _ w6.heap.size m _ _ _ w6 EG.out SQ.out (by omega) (Nat.le_refl _)).mono ?_; rintro e7 w7 ⟨v, rfl, ho, hb7⟩; have B7 := Lib.hid (below_step B6.out hb7); have HO := Lib.hid ho; clear hb7 ho)
      go_ret2
      exact ⟨v, by rw [hz.out]; rfl, by rw [HZL.out]; exact (sel_out HO.out rfl (Nat.le_trans (selTo_len _) hm')).down hs6, B7.out⟩

end Go.Proofs.YtajoimopahibcaaGreat

