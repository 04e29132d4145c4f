/- Texts of this seat in one: KG. -/
import Derived.Test.YtcbodedpahdobaaMW
import Derived.Test.YtcbodedpahdobaaMR
import Derived.Test.YtcbodedpahdobaaMG
import Derived.Test.YtcbodedpahdobaaMQ

/- FactorMap of both sides. -/
namespace Go.Proofs.Ytcbodedpahdobaa
open Go.RowKit Go.Shelf
set_option maxRecDepth 100000
attribute [local go_sem] Oper.semAt_some

/-- The kernel, as a set. -/
def kerI (m : Nat) (F : Nat → Nat) (i : Nat) : Bool := decide (i < m) && kerB F i
noncomputable def facL (n o : Int) (X Y : List Int) (n' o' : Int) (X' Y' L : List Int) : List Int := if isHomB n o X Y n' o' X' Y' L = true then (leas n.toNat (tabOf X) (kerI n.toNat (tabOf L)) n.toNat).map fun a => ((tabOf L a : Nat) : Int) else []
theorem fac_yes {n o n' o' : Int} {X Y X' Y' L : List Int} (h : isHomB n o X Y n' o' X' Y' L = true) : facL n o X Y n' o' X' Y' L = (leas n.toNat (tabOf X) (kerI n.toNat (tabOf L)) n.toNat).map fun a => ((tabOf L a : Nat) : Int) := if_pos h
theorem fac_no {n o n' o' : Int} {X Y X' Y' L : List Int} (h : isHomB n o X Y n' o' X' Y' L = false) : facL n o X Y n' o' X' Y' L = [] := if_neg (by rw [h]; simp)
theorem ker_lst {m : Nat} {F : Nat → Nat} : lstP m (kerB F) = lstP m (kerI m F) := lst_congr fun i hi => by unfold kerI; rw [decide_eq_true hi]; rfl
theorem kerI_iff {m i : Nat} {F : Nat → Nat} : kerI m F i = true ↔ i < m ∧ F i = 0 := by unfold kerI kerB; rw [Bool.and_eq_true, decide_eq_true_iff, decide_eq_true_iff]
theorem fac_snoc {LS : List Nat} {F : Nat → Nat} {y l : Nat} (hy : y < LS.length) (hl : (LS[y]?).getD 0 = l) : ((LS.take (y + 1)).map fun a => ((F a : Nat) : Int)) = ((LS.take y).map fun a => ((F a : Nat) : Int)) ++ [((F l : Nat) : Int)] := by
  rw [List.take_succ_eq_append_getElem hy, List.map_append, List.map_singleton]
  rw [List.getElem?_eq_getElem hy] at hl
  rw [show LS[y] = l from hl]
theorem clsV_getA {l : List Nat} : ∀ {i : Nat}, i < l.length → (clsV l)[i * 2]? = some (.int .i64 (i : Int)) := by
  intro i hi
  obtain ⟨k, hk⟩ : ∃ k, l.length = k := ⟨_, rfl⟩
  induction k generalizing l with
  | zero => omega
  | succ k ih =>
    obtain ⟨l', a, rfl⟩ : ∃ l' a, l = l' ++ [a] := by
      have hne : l ≠ [] := fun e => by subst e; simp at hk
      exact ⟨l.dropLast, l.getLast hne, (List.dropLast_concat_getLast hne).symm⟩
    have hl : l'.length = k := by simpa using hk
    rw [clsV_snoc]
    by_cases h2 : i < l'.length
    · rw [List.getElem?_append_left (by rw [clsV_len]; omega), ih h2 hl]
    · have e1 : i = l'.length := by simp at hi; omega
      subst e1
      rw [List.getElem?_append_right (by rw [clsV_len]; omega), clsV_len]
      simp
theorem clsV_getB {l : List Nat} : ∀ {i : Nat}, i < l.length → (clsV l)[i * 2 + 1]? = some (.int .i64 (l.getD i 0 : Int)) := by
  intro i hi
  obtain ⟨k, hk⟩ : ∃ k, l.length = k := ⟨_, rfl⟩
  induction k generalizing l with
  | zero => omega
  | succ k ih =>
    obtain ⟨l', a, rfl⟩ : ∃ l' a, l = l' ++ [a] := by
      have hne : l ≠ [] := fun e => by subst e; simp at hk
      exact ⟨l.dropLast, l.getLast hne, (List.dropLast_concat_getLast hne).symm⟩
    have hl : l'.length = k := by simpa using hk
    rw [clsV_snoc]
    by_cases h2 : i < l'.length
    · rw [List.getElem?_append_left (by rw [clsV_len]; omega), ih h2 hl]
      simp [List.getElem?_append_left h2]
    · have e1 : i = l'.length := by simp at hi; omega
      subst e1
      rw [List.getElem?_append_right (by rw [clsV_len]; omega), clsV_len]
      have e2 : l'.length * 2 + 1 - l'.length * 2 = 1 := by omega
      rw [e2]
      simp
theorem z6A_info {cs : Array Value} (h : cs.size = 6) : (Try.prog.info? 108).map (·.size) = some cs.size := by rw [h]; kernel_rfl
set_option maxHeartbeats 2000000 in
theorem qSizeA_any {m e b1 o1 la ca b2 o2 lb cb bm : Nat} (A : Option Addr) (n c : Nat) (w : World) : Calls Try.prog 107 #[.agg (quoC m e b1 o1 la ca b2 o2 lb cb (.slice A n c) bm)] w fun e w' => e = .returned (.int .i64 n) ∧ Below w.heap.size w w' := by
  unfold quoC
  go_enter Try.func107, Try.ntmps107
  go_wp2
  go_ret
  exact ⟨rfl, (Below.refl _ _).alloc (Nat.le_refl _) _⟩
theorem leas_pos {m e : Nat} {S P : Nat → Nat} {p : Nat → Bool} (R : RTab m S P e) (hp : Idl m S P p) : 0 < (leas m S p m).length := by
  have := R.nam_lt hp R.hm
  omega
theorem heap_alloc_other (w : World) (o : Obj) (k : Nat) (h : k < w.heap.size) : (w.alloc o).heap[k]? = w.heap[k]? := ((Below.refl w.heap.size w).alloc (Nat.le_refl _) o).block k h
theorem hom_zero {m e m' e' : Nat} {S P S' P' F : Nat → Nat} (R : RTab m S P e) (R' : RTab m' S' P' e') (hF : ∀ k, k < m → F k < m') (h : HomTo m m' S P S' P' F m) : F 0 = 0 := by
  have h0 := R.z
  have h1 := (h 0 h0 0 h0).1
  rw [show S (0 * m + 0) = 0 from by have := R.A00 h0; simpa using this] at h1
  have h2 := hF 0 h0
  have h3 : S' (0 * m' + F 0) = S' (F 0 * m' + F 0) := by
    rw [R'.Acs R'.z h2, R'.A00 h2]; exact h1
  exact (congrArg Fin.val (R'.inj (a := ⟨0, R'.z⟩) (b := ⟨F 0, h2⟩) (c := ⟨F 0, h2⟩) (Fin.ext h3))).symm
theorem hom_ker {m e m' e' : Nat} {S P S' P' F : Nat → Nat} (R : RTab m S P e) (R' : RTab m' S' P' e') (hF : ∀ k, k < m → F k < m') (h : HomTo m m' S P S' P' F m) : Idl m S P (kerI m F) where
  lt := fun i hi => (kerI_iff.1 hi).1
  z := kerI_iff.2 ⟨R.z, hom_zero R R' hF h⟩
  s := fun i j hi hj => by
    obtain ⟨i1, i2⟩ := kerI_iff.1 hi
    obtain ⟨j1, j2⟩ := kerI_iff.1 hj
    refine kerI_iff.2 ⟨R.sc i1 j1, ?_⟩
    rw [(h i i1 j j1).1, i2, j2]
    exact R'.A00 R'.z
  t := fun i j hi hj => by
    obtain ⟨i1, i2⟩ := kerI_iff.1 hi
    refine kerI_iff.2 ⟨R.pc i1 hj, ?_⟩
    rw [(h i i1 j hj).2, i2, R'.Mcs R'.z (hF j hj)]
    exact R'.M00 (hF j hj)

set_option maxHeartbeats 16000000 in
theorem fac_any (n o : Int) (A B : Option Addr) (la ca lb cb : Nat) (X Y : List Int) (n' o' : Int) (A' B' : Option Addr) (la' ca' lb' cb' : Nat) (X' Y' : List Int) (C : Option Addr) (len cap : Nat) (L : List Int) (w : World) (hX : Ints w w.heap.size A la X) (hY : Ints w w.heap.size B lb Y) (hla : la ≤ 9223372036854775807) (hlb : lb ≤ 9223372036854775807) (hca : la ≤ ca) (hcb : lb ≤ cb) (hX' : Ints w w.heap.size A' la' X') (hY' : Ints w w.heap.size B' lb' Y') (hla' : la' ≤ 9223372036854775807) (hlb' : lb' ≤ 9223372036854775807) (hca' : la' ≤ ca') (hcb' : lb' ≤ cb') (hL : Ints w w.heap.size C len L) (hlen : len ≤ 9223372036854775807) :
    Calls Try.prog 55 #[.agg #[.int .i64 n, .int .i64 o, .slice A la ca, .slice B lb cb], .agg #[.int .i64 n', .int .i64 o', .slice A' la' ca', .slice B' lb' cb'], .slice C len cap] w fun e w' => ∃ v, e = .returned (.tuple #[v, .bool (isHomB n o X Y n' o' X' Y' L)]) ∧ SliceOut w.heap.size w' v (facL n o X Y n' o' X' Y' L) ∧ Below w.heap.size w w' := by
  obtain ⟨i0, hi, hz0, hz1, hz2⟩ := info_parts int_info
  obtain ⟨W, hW⟩ : ∃ W, (w.alloc (.cells #[.int .i64 n, .int .i64 o, .slice A la ca, .slice B lb cb] 25)).alloc (.cells #[.int .i64 n', .int .i64 o', .slice A' la' ca', .slice B' lb' cb'] 25) = W := ⟨_, rfl⟩
  have k0 : Blk W w.heap.size 25 #[.int .i64 n, .int .i64 o, .slice A la ca, .slice B lb cb] := by
    subst hW; exact (Blk.new w _ _).alloc _
  have k1 : Blk W (w.heap.size + 1) 25 #[.int .i64 n', .int .i64 o', .slice A' la' ca', .slice B' lb' cb'] := by
    subst hW
    have := Blk.new (w.alloc (.cells #[.int .i64 n, .int .i64 o, .slice A la ca, .slice B lb cb] 25)) 25 #[.int .i64 n', .int .i64 o', .slice A' la' ca', .slice B' lb' cb']
    simp only [World.size_alloc] at this
    exact this
  have b0 : Below w.heap.size w W := by
    subst hW; exact ((Below.refl _ _).alloc (Nat.le_refl _) _).alloc (by simp) _
  have HX0 := Lib.hid hX
  have HY0 := Lib.hid hY
  have HX0' := Lib.hid hX'
  have HY0' := Lib.hid hY'
  have HL0 := Lib.hid hL
  have B0 := Lib.hid b0
  have HW := Lib.hid hW
  have K0 := Lib.hid k0
  have K1 := Lib.hid k1
  obtain ⟨c0, c1, c2, c3⟩ := blk4 k0
  obtain ⟨d0, d1, d2, d3⟩ := blk4 k1
  obtain ⟨hb, hhb⟩ : ∃ b, isHomB n o X Y n' o' X' Y' L = b := ⟨_, rfl⟩
  rw [hhb]
  have HB := Lib.hid hhb
  clear hX hY hX' hY' hL k0 k1 b0 hW hhb
  go_enter Try.func55, Try.ntmps55
  go_upto_region 1 with (fail)
  rw [HW.out]
  go_wp2_with (fail)
  refine (ker_any n o A B la ca lb cb X Y n' o' A' B' la' ca' lb' cb' X' Y' C len cap L W (HX0.out.next B0.out) (HY0.out.next B0.out) hla hlb hca hcb (HX0'.out.next B0.out) (HY0'.out.next B0.out) hla' hlb' hca' hcb' (HL0.out.next B0.out) hlen).mono ?_
  rintro e1 w1 ⟨v1, rfl, ⟨A1, l1, c1', rfl, oK, hlc, hl48⟩, hb1⟩
  rw [HB.out]
  have B1 := Lib.hid (below_step B0.out hb1)
  have K01 := Lib.hid (K0.out.next hb1)
  have IK := Lib.hid oK.ints
  have s1 := hb1.size
  clear hb1 c0 c1 c2 c3 d0 d1 d2 d3 oK
  cases hb
  · go_wp2
    go_ret2
    exact ⟨.slice none 0 0, rfl, by rw [fac_no HB.out]; exact SliceOut.nil, B1.out⟩
  · obtain ⟨v1, v2, v3, v4, _⟩ := hom_data HB.out
    obtain ⟨m, e, b1, o1, b2, o2, rfl, rfl, rfl, rfl, hr, _, _, _, _, _⟩ := valid_data v1 HX0.out HY0.out hca hcb
    obtain ⟨m', e', b1', o1', b2', o2', rfl, rfl, rfl, rfl, hr', _, _, _, _, _⟩ := valid_data v2 HX0'.out HY0'.out hca' hcb'
    obtain rfl : len = m := by have := HL0.out.1; omega
    obtain ⟨b, off, rfl, hlst⟩ := lst_of HL0.out v4 hr.hm
    have hm' := hr.hm'
    have hm2' := hr'.hm'
    have hm := hr.hm
    have R := rtab_of_valid v1
    have R' := rtab_of_valid v2
    have v6 := hom_data HB.out
    have v5 := v6.2.2.2.2
    simp only [Int.toNat_natCast] at v5
    have hI := hom_ker R R' (fun k hk => (hlst.2 k hk).2) (propB_iff.1 v5).2
    have hid := isId_of v1 hI
    have hset := setL_lst hI.lt
    have hkl : kerL len e X Y m' e' X' Y' L = lstP len (kerI len (tabOf L)) := by rw [ker_yes HB.out, Int.toNat_natCast, ker_lst]
    have HLS0 := Lib.hid hlst
    rw [hkl] at IK
    have HZL := Lib.hid (show facL len e X Y m' e' X' Y' L = (leas len (tabOf X) (kerI len (tabOf L)) len).map fun a => ((tabOf L a : Nat) : Int) by rw [fac_yes HB.out, Int.toNat_natCast])
    obtain ⟨F, hF⟩ : ∃ F, tabOf L = F := ⟨_, rfl⟩
    obtain ⟨p, hp⟩ : ∃ p, kerI len (tabOf L) = p := ⟨_, rfl⟩
    rw [hp] at IK hI hid hset HZL
    rw [hF] at HLS0 HZL
    have HID := Lib.hid hid
    have HSET := Lib.hid hset
    have HPI := Lib.hid hI
    have HR0 := Lib.hid hr
    have RR := Lib.hid R
    clear hr hr' hlst v1 v2 v3 v4 v5 v6 hF hp hI hid hset hkl R R'
    obtain ⟨c0, c1, c2, c3⟩ := blk4 K01.out
    go_wp2_with (fail)
    refine (quotientOf_yes A1 l1 c1' X Y _ w1 p len e b1 o1 la ca b2 o2 lb cb HID.out HSET.out (HR0.out.next B1.out) RR.out HPI.out (HX0.out.next B1.out) (HY0.out.next B1.out) IK.out hla hlb (by omega) hca hcb).mono ?_
    rintro e2 w2 ⟨mv, rfl, hQ, hb2⟩
    obtain ⟨vC, bm, rfl, hC, hM, _⟩ := hQ
    obtain ⟨LS, hLS⟩ : ∃ x, leas len (tabOf X) p len = x := ⟨_, rfl⟩
    have HLS := Lib.hid hLS
    rw [hLS] at hC HZL
    have ls16 : LS.length ≤ 16 := by rw [← hLS]; exact Nat.le_trans (leas_len len) hm'
    have hf0 : 0 < LS.length := by rw [← hLS]; exact leas_pos RR.out HPI.out
    obtain ⟨gC, cC, e1, hgC⟩ : ∃ g c, vC = .slice (some ⟨g, 0, none⟩) LS.length c ∧ ∃ cur, Blk w2 g 113 cur ∧ cur.toList.take (LS.length * 2) = clsV LS := by
      rcases hC.2 with ⟨_, h2⟩ | ⟨g, cap, cur, h1, _, h3, _, _, _, h6⟩
      · omega
      · exact ⟨g, cap, h1, cur, h3, h6⟩
    subst e1
    obtain ⟨cur, hcB, hcT⟩ := hgC
    obtain ⟨nl, hnl⟩ : ∃ x, LS.length = x := ⟨_, rfl⟩
    have HNL := Lib.hid hnl
    have B2 := Lib.hid (below_step B1.out hb2)
    have HCB := Lib.hid hcB
    have HCT := Lib.hid hcT
    have LSlt := Lib.hid (show ∀ a ∈ LS, a < len from fun a ha => by rw [← hLS] at ha; exact leas_lt ha)
    rw [hnl]
    rw [hnl] at ls16 hf0
    unfold quoC
    clear hb2 c0 c1 c2 c3 hC hM hnl hLS hcB hcT
    go_upto_region 5 with (fail)
    obtain ⟨gQ, hgQ⟩ : ∃ g, w2.heap.size = g := ⟨_, rfl⟩
    obtain ⟨V, hV⟩ : ∃ V, w2.alloc (.cells #[.int .i64 len, .int .i64 e, .slice (some ⟨b1, o1, none⟩) la ca, .slice (some ⟨b2, o2, none⟩) lb cb, .slice (some ⟨gC, 0, none⟩) nl cC, .map (some bm)] 108) = V := ⟨_, rfl⟩
    have bV : Below w2.heap.size w2 V := by subst hV; exact (Below.refl _ _).alloc (Nat.le_refl _) _
    have kV : Blk V gQ 108 #[.int .i64 len, .int .i64 e, .slice (some ⟨b1, o1, none⟩) la ca, .slice (some ⟨b2, o2, none⟩) lb cb, .slice (some ⟨gC, 0, none⟩) nl cC, .map (some bm)] := by subst hV hgQ; exact Blk.new w2 _ _
    rw [hV, hgQ]
    have B3 := Lib.hid (below_step B2.out bV)
    have HC3 := Lib.hid (HCB.out.next bV)
    have KQ := Lib.hid kV
    have hi6 := z6A_info (cs := #[.int .i64 len, .int .i64 e, .slice (some ⟨b1, o1, none⟩) la ca, .slice (some ⟨b2, o2, none⟩) lb cb, .slice (some ⟨gC, 0, none⟩) nl cC, .map (some bm)]) rfl
    clear bV hV kV hgQ
    go_wp2_with (refine wpList_load_row rfl 108 (.tmp 10) rfl gQ rfl _ #[.int .i64 len, .int .i64 e, .slice (some ⟨b1, o1, none⟩) la ca, .slice (some ⟨b2, o2, none⟩) lb cb, .slice (some ⟨gC, 0, none⟩) nl cC, .map (some bm)] (0, 0) _ KQ.out Try.underlying108 rfl hi6 ?_)
    refine (qSizeA_any (m := len) (e := e) (b1 := b1) (o1 := o1) (la := la) (ca := ca) (b2 := b2) (o2 := o2) (lb := lb) (cb := cb) (bm := bm) (some ⟨gC, 0, none⟩) nl cC V).mono ?_
    rintro e5 w5 ⟨rfl, hb5⟩
    have B5 := Lib.hid (below_step B3.out hb5)
    have HC5 := Lib.hid (HC3.out.next hb5)
    have KQ5 := Lib.hid (KQ.out.next hb5)
    have d4 := KQ5.out.cell 4
    simp only [List.getElem?_toArray, List.getElem?_cons_zero, List.getElem?_cons_succ] at d4
    have s5 := B5.out.size
    clear hb5
    go_wp2_with (at_make; refine wpList_make_own _ rfl _ _ 23 rfl w5.heap.size 3 i0 (.int .i64 0) 1 Try.underlying23 hi hz0 hz1 _ _ _ nl rfl rfl rfl (by rw [hz2]; omega) (by unfold maxLen; omega) (Nat.le_refl _) ?_; intro w6 hown6 hg6; have O6 := Lib.hid hown6; have B6 := Lib.hid ((Below.refl w5.heap.size w5).grown hg6 (Nat.le_refl _) (by simp)); clear hown6 hg6; have d4 := (B6.out.cell (p := ⟨gQ, 4, none⟩) KQ5.out.lt).trans d4)
    go_loopg [11, 37] nl (fun g2 vs vi wr => ∃ y : Nat, y ≤ nl ∧ nl ≤ y + g2 ∧ vi = .int .i64 y ∧ wr.ownsRow w5.heap.size 3 1 vs y (((LS.take y).map fun a => ((F a : Nat) : Int)).map (.int .i64)) ∧ Below w5.heap.size w5 wr)
    case atStart => exact ⟨0, Nat.zero_le _, by omega, rfl, by simpa using O6.out, B6.out⟩
    case round =>
      obtain ⟨y, hy, hg2, rfl, hown, hb⟩ := hrel
      have hsz := hb.size
      have OW := Lib.hid hown
      have BW := Lib.hid hb
      have HCW := Lib.hid (HC5.out.next hb)
      clear hown hb
      by_cases hlt : y < nl
      · obtain ⟨l, hl⟩ : ∃ l, (LS[y]?).getD 0 = l := ⟨_, rfl⟩
        have HL := Lib.hid hl
        have hyl : y < LS.length := by rw [HNL.out]; exact hlt
        have hcur0 : cur[y * 2]? = some (.int .i64 (y : Int)) := by
          have e5 : cur.toList[y * 2]? = (clsV LS)[y * 2]? := by rw [← HCT.out, List.getElem?_take, if_pos (by omega)]
          rw [← Array.getElem?_toList, e5, clsV_getA hyl]
        have hcur1 : cur[y * 2 + 1]? = some (.int .i64 (l : Int)) := by
          have e5 : cur.toList[y * 2 + 1]? = (clsV LS)[y * 2 + 1]? := by rw [← HCT.out, List.getElem?_take, if_pos (by omega)]
          rw [← Array.getElem?_toList, e5, clsV_getB hyl, List.getD_eq_getElem?_getD, hl]
        have ce0 : wr.cell? ⟨gC, y * 2, none⟩ = some (.int .i64 (y : Int)) := (Blk.cell (show Blk wr gC 113 cur from HCW.out) _).trans hcur0
        have ce1 : wr.cell? ⟨gC, y * 2 + 1, none⟩ = some (.int .i64 (l : Int)) := (Blk.cell (show Blk wr gC 113 cur from HCW.out) _).trans hcur1
        have hllt : l < len := by
          rw [List.getElem?_eq_getElem hyl] at hl
          exact hl ▸ LSlt.out _ (List.getElem_mem hyl)
        clear hl hcur0 hcur1
        go_upto_region 11 with (fail)
        obtain ⟨Wc, hWc⟩ : ∃ Wc, wr.alloc (.cells #[.int .i64 (y : Int), .int .i64 (l : Int)] 113) = Wc := ⟨_, rfl⟩
        have bc : Below wr.heap.size wr Wc := by subst hWc; exact (Below.refl _ _).alloc (Nat.le_refl _) _
        have kc : Blk Wc wr.heap.size 113 #[.int .i64 (y : Int), .int .i64 (l : Int)] := by subst hWc; exact Blk.new wr _ _
        rw [hWc]
        have x1 := kc.cell 1
        simp only [List.getElem?_toArray, List.getElem?_cons_zero, List.getElem?_cons_succ] at x1
        have BW2 := Lib.hid (BW.out.trans (bc.mono hsz))
        have hsz2 : w5.heap.size ≤ Wc.heap.size := BW2.out.size
        have OW2 := Lib.hid (own_nextK OW.out bc)
        have hLc := HLS0.out.next (below_step (below_step B5.out BW.out) bc)
        obtain ⟨f1, _⟩ := hLc.2 l hllt
        have l0 : (0 : Int) ≤ (l : Int) := by omega
        have l1' : (l : Int) < (len : Int) := by omega
        have wr2 : Below Wc.heap.size Wc (Wc.alloc (.cells #[.int .i64 ((F l : Nat) : Int)] 3)) := (Below.refl _ _).alloc (Nat.le_refl _) _
        clear bc kc hWc ce0 ce1 hLc
        go_wp2_with (at_builtin; refine wpList_append_own _ rfl _ _ 23 rfl w5.heap.size 3 i0 (.int .i64 0) 1 8 Try.underlying23 hi hz0 hz1 hz2 rfl (by decide) _ _ _ rfl (OW2.out.alloc _) ⟨Wc.heap.size, 0, none⟩ 1 1 [.int .i64 ((F l : Nat) : Int)] rfl rfl (by intro i u hi; match i, hi with | 0, hi => simp at hi; subst hi; simp [Addr.add]) (by intro u hu; simp at hu; subst hu; rfl) (by unfold maxLen; omega) (by omega) (by simp; omega) ?_; intro v7 w7 hown7 hg7 _; have B7 := Lib.hid ((BW2.out.trans (wr2.mono hsz2)).grown hg7 (Nat.le_trans hsz2 wr2.size) (fun k hk => (OW2.out.lt k hk).1)); have O7 := Lib.hid (show w7.ownsRow w5.heap.size 3 1 v7 (y + 1) (((LS.take (y + 1)).map fun a => ((F a : Nat) : Int)).map (.int .i64)) by rw [fac_snoc hyl HL.out, List.map_append]; exact hown7); clear hown7 hg7)
        go_roundg (nl - (y + 1))
        case measure => omega
        case rel => exact ⟨y + 1, by omega, by omega, by go_num, O7.out, B7.out⟩
      · have hym : y = nl := by omega
        subst hym
        go_wp2
        go_ret2
        refine ⟨_, rfl, ?_, B5.out.trans (BW.out.mono s5)⟩
        rw [HZL.out]
        have hd := SliceOut.of_row OW.out (by rw [List.length_map, List.length_take, HNL.out, Nat.min_self]) (by omega)
        rw [List.take_of_length_le (by rw [HNL.out]; exact Nat.le_refl _)] at hd
        exact hd.down s5

set_option maxHeartbeats 16000000 in
theorem sfac_any (n o : Int) (A B : Option Addr) (la ca lb cb : Nat) (X Y : List Int) (n' o' : Int) (A' B' : Option Addr) (la' ca' lb' cb' : Nat) (X' Y' : List Int) (C : Option Addr) (len cap : Nat) (L : List Int) (w : World) (hX : Ints w w.heap.size A la X) (hY : Ints w w.heap.size B lb Y) (hla : la ≤ 9223372036854775807) (hlb : lb ≤ 9223372036854775807) (hca : la ≤ ca) (hcb : lb ≤ cb) (hX' : Ints w w.heap.size A' la' X') (hY' : Ints w w.heap.size B' lb' Y') (hla' : la' ≤ 9223372036854775807) (hlb' : lb' ≤ 9223372036854775807) (hca' : la' ≤ ca') (hcb' : lb' ≤ cb') (hL : Ints w w.heap.size C len L) (hlen : len ≤ 9223372036854775807) :
    Calls Try.prog 54 #[.agg #[.int .i64 n, .int .i64 o, .slice A la ca, .slice B lb cb], .agg #[.int .i64 n', .int .i64 o', .slice A' la' ca', .slice B' lb' cb'], .slice C len cap] w fun e w' => ∃ v, e = .returned (.tuple #[v, .bool (isHomB n o X Y n' o' X' Y' L)]) ∧ SliceOut w.heap.size w' v (facL n o X Y n' o' X' Y' L) ∧ Below w.heap.size w w' := by
  obtain ⟨i0, hi, hz0, hz1, hz2⟩ := info_parts int_info
  obtain ⟨W, hW⟩ : ∃ W, (w.alloc (.cells #[.int .i64 n, .int .i64 o, .slice A la ca, .slice B lb cb] 25)).alloc (.cells #[.int .i64 n', .int .i64 o', .slice A' la' ca', .slice B' lb' cb'] 25) = W := ⟨_, rfl⟩
  have k0 : Blk W w.heap.size 25 #[.int .i64 n, .int .i64 o, .slice A la ca, .slice B lb cb] := by
    subst hW; exact (Blk.new w _ _).alloc _
  have k1 : Blk W (w.heap.size + 1) 25 #[.int .i64 n', .int .i64 o', .slice A' la' ca', .slice B' lb' cb'] := by
    subst hW
    have := Blk.new (w.alloc (.cells #[.int .i64 n, .int .i64 o, .slice A la ca, .slice B lb cb] 25)) 25 #[.int .i64 n', .int .i64 o', .slice A' la' ca', .slice B' lb' cb']
    simp only [World.size_alloc] at this
    exact this
  have b0 : Below w.heap.size w W := by
    subst hW; exact ((Below.refl _ _).alloc (Nat.le_refl _) _).alloc (by simp) _
  have HX0 := Lib.hid hX
  have HY0 := Lib.hid hY
  have HX0' := Lib.hid hX'
  have HY0' := Lib.hid hY'
  have HL0 := Lib.hid hL
  have B0 := Lib.hid b0
  have HW := Lib.hid hW
  have K0 := Lib.hid k0
  have K1 := Lib.hid k1
  obtain ⟨c0, c1, c2, c3⟩ := blk4 k0
  obtain ⟨d0, d1, d2, d3⟩ := blk4 k1
  obtain ⟨hb, hhb⟩ : ∃ b, isHomB n o X Y n' o' X' Y' L = b := ⟨_, rfl⟩
  rw [hhb]
  have HB := Lib.hid hhb
  clear hX hY hX' hY' hL k0 k1 b0 hW hhb
  go_enter Try.func54, Try.ntmps54
  go_upto_region 1 with (fail)
  rw [HW.out]
  go_wp2_with (fail)
  refine (sker_any n o A B la ca lb cb X Y n' o' A' B' la' ca' lb' cb' X' Y' C len cap L W (HX0.out.next B0.out) (HY0.out.next B0.out) hla hlb hca hcb (HX0'.out.next B0.out) (HY0'.out.next B0.out) hla' hlb' hca' hcb' (HL0.out.next B0.out) hlen).mono ?_
  rintro e1 w1 ⟨v1, rfl, ⟨A1, l1, c1', rfl, oK, hlc, hl48⟩, hb1⟩
  rw [HB.out]
  have B1 := Lib.hid (below_step B0.out hb1)
  have K01 := Lib.hid (K0.out.next hb1)
  have IK := Lib.hid oK.ints
  have s1 := B1.out.size
  clear hb1 c0 c1 c2 c3 d0 d1 d2 d3 oK
  cases hb
  · go_wp2
    go_ret2
    refine ⟨_, rfl, ?_, B1.out.alloc B1.out.size _⟩
    rw [fac_no HB.out]
    exact SliceOut.of_row (n := 0) (own_lit_K [] B1.out.size (by unfold maxLen; simp)) rfl (by omega)
  · obtain ⟨v1, v2, v3, v4, _⟩ := hom_data HB.out
    obtain ⟨m, e, b1, o1, b2, o2, rfl, rfl, rfl, rfl, hr, _, _, _, _, _⟩ := valid_data v1 HX0.out HY0.out hca hcb
    obtain ⟨m', e', b1', o1', b2', o2', rfl, rfl, rfl, rfl, hr', _, _, _, _, _⟩ := valid_data v2 HX0'.out HY0'.out hca' hcb'
    obtain rfl : len = m := by have := HL0.out.1; omega
    obtain ⟨b, off, rfl, hlst⟩ := lst_of HL0.out v4 hr.hm
    have hm' := hr.hm'
    have hm2' := hr'.hm'
    have hm := hr.hm
    have R := rtab_of_valid v1
    have R' := rtab_of_valid v2
    have v6 := hom_data HB.out
    have v5 := v6.2.2.2.2
    simp only [Int.toNat_natCast] at v5
    have hI := hom_ker R R' (fun k hk => (hlst.2 k hk).2) (propB_iff.1 v5).2
    have hid := isId_of v1 hI
    have hset := setL_lst hI.lt
    have hkl : kerL len e X Y m' e' X' Y' L = lstP len (kerI len (tabOf L)) := by rw [ker_yes HB.out, Int.toNat_natCast, ker_lst]
    have HLS0 := Lib.hid hlst
    rw [hkl] at IK
    have HZL := Lib.hid (show facL len e X Y m' e' X' Y' L = (leas len (tabOf X) (kerI len (tabOf L)) len).map fun a => ((tabOf L a : Nat) : Int) by rw [fac_yes HB.out, Int.toNat_natCast])
    obtain ⟨F, hF⟩ : ∃ F, tabOf L = F := ⟨_, rfl⟩
    obtain ⟨p, hp⟩ : ∃ p, kerI len (tabOf L) = p := ⟨_, rfl⟩
    rw [hp] at IK hI HZL
    rw [hF] at HLS0 HZL
    have HPI := Lib.hid hI
    have HR0 := Lib.hid hr
    have RR := Lib.hid R
    clear hr hr' hlst v1 v2 v3 v4 v5 v6 hF hp hI hid hset hkl R R'
    obtain ⟨LS, hLS⟩ : ∃ x, leas len (tabOf X) p len = x := ⟨_, rfl⟩
    have HLS := Lib.hid hLS
    have ls16 : LS.length ≤ 16 := by rw [← hLS]; exact Nat.le_trans (leas_len len) hm'
    have hf0 : 0 < LS.length := by rw [← hLS]; exact leas_pos RR.out HPI.out
    have LSlt := Lib.hid (show ∀ a ∈ LS, a < len from fun a ha => by rw [← hLS] at ha; exact leas_lt ha)
    have LSin := Lib.hid (show ∀ a ∈ LS, a ∈ leas len (tabOf X) p len from fun a ha => by rw [hLS]; exact ha)
    have hZn : (clsL len (tabOf X) p len).length = LS.length := by unfold clsL; rw [List.length_map, hLS]
    have HZN := Lib.hid hZn
    rw [hLS] at HZL
    obtain ⟨nl, hnl⟩ : ∃ x, LS.length = x := ⟨_, rfl⟩
    have HNL := Lib.hid hnl
    rw [hnl] at ls16 hf0
    clear hLS hZn hnl
    go_upto_region 5 with (fail)
    obtain ⟨gU, hgU0⟩ : ∃ g, w1.heap.size = g := ⟨_, rfl⟩
    obtain ⟨U, hU⟩ : ∃ U, w1.alloc (.cells #[] 3) = U := ⟨_, rfl⟩
    have sUg : U.heap.size = gU + 1 := by rw [← hU, World.size_alloc, hgU0]
    have bU : Below w1.heap.size w1 U := by subst hU; exact (Below.refl _ _).alloc (Nat.le_refl _) _
    have oU : U.ownsRow w.heap.size 3 1 (.slice (some ⟨w1.heap.size, 0, none⟩) 0 0) 0 [] := by
      subst hU; exact own_lit_K [] s1 (by unfold maxLen; simp)
    rw [hgU0] at oU
    rw [hU, hgU0]
    have B2 := Lib.hid (below_step B1.out bU)
    have O2 := Lib.hid oU
    have IK2 := Lib.hid (IK.out.next bU)
    obtain ⟨c0, c1, c2, c3⟩ := blk4 (K01.out.next bU)
    clear bU oU hU
    go_wp2_with (fail)
    refine (l5Classes_any A1 l1 c1' p len e b1 o1 la ca b2 o2 lb cb (tabOf X) (tabOf Y) U (HR0.out.next B2.out) RR.out HPI.out IK2.out (by omega)).mono ?_
    rintro e2 w2 ⟨v2, rfl, hLL, hb2⟩
    obtain ⟨xs, hrow, hxl, hxs⟩ := hLL
    rw [HZN.out, HNL.out] at hrow
    rw [HZN.out, HNL.out] at hxl
    obtain ⟨g0, cap0, rfl, hgl, hgU⟩ : ∃ g cap, v2 = .slice (some ⟨g, 0, none⟩) nl cap ∧ g < w2.heap.size ∧ U.heap.size ≤ g := by
      rcases hrow.2 with ⟨_, h2⟩ | ⟨g, cap, cur, rfl, h1, _⟩
      · omega
      · exact ⟨g, cap, rfl, (hrow.lt g rfl).2, (hrow.lt g rfl).1⟩
    have HROW := Lib.hid hrow
    have HXS := Lib.hid hxs
    have B3 := Lib.hid (below_step B2.out hb2)
    have O3 := Lib.hid (own_nextK O2.out hb2)
    have sU2 := hb2.size
    clear hb2 hrow hxs c0 c1 c2 c3
    go_wp2
    go_loopg [10, 28] nl (fun g2 vs vi wr => ∃ y : Nat, y ≤ nl ∧ nl ≤ y + g2 ∧ vi = .int .i64 y ∧ wr.ownsRow w.heap.size 3 1 vs y (((LS.take y).map fun a => ((F a : Nat) : Int)).map (.int .i64)) ∧ Below w.heap.size w wr ∧ w2.heap.size ≤ wr.heap.size ∧ (∀ k, k < w2.heap.size → k ≠ gU → wr.heap[k]? = w2.heap[k]?) ∧ ∀ g, vs.ownBlock = some g → g = gU ∨ w2.heap.size ≤ g)
    case atStart => exact ⟨0, Nat.zero_le _, by omega, rfl, by simpa using O3.out, B3.out, Nat.le_refl _, fun _ _ _ => rfl, fun g e => .inl (by simp only [Value.ownBlock, Option.some.injEq] at e; exact e.symm)⟩
    case round =>
      obtain ⟨y, hy, hg2, rfl, hown, hb, hsw, hkp, hat⟩ := hrel
      have hsz := hb.size
      have OW := Lib.hid hown
      have BW := Lib.hid hb
      have KP := Lib.hid hkp
      have AT := Lib.hid hat
      clear hown hb hkp hat
      by_cases hlt : y < nl
      · obtain ⟨l, hl⟩ : ∃ l, (LS[y]?).getD 0 = l := ⟨_, rfl⟩
        have HL := Lib.hid hl
        have hyl : y < LS.length := by rw [HNL.out]; exact hlt
        have hlg : LS[y]? = some l := by rw [List.getElem?_eq_getElem hyl] at hl ⊢; rw [← hl]; rfl
        have hllt : l < len := LSlt.out _ (List.mem_of_getElem? hlg)
        obtain ⟨t, ht⟩ := RR.out.class_first HPI.out (LSin.out _ (List.mem_of_getElem? hlg))
        obtain ⟨B, q, c, hx1, hx2, hx3, hx4, _⟩ := HXS.out y _ (cls_get (by rw [HLS.out]; exact hlg))
        have hq : 0 < q := by have := hx2.1; rw [ht] at this; simp at this; omega
        obtain ⟨gb, ob, rfl, hgb1, hgb2, hgc⟩ := hx2.2 hq
        have hce : wr.cell? ⟨g0, y, none⟩ = some (.slice (some ⟨gb, ob, none⟩) q c) := by
          rw [World.cell?_of_block (a := ⟨g0, y, none⟩) (w := w2) (KP.out g0 hgl (by omega)), HROW.out.cellAt y (by omega), hx1]
        have hcb : wr.cell? ⟨gb, ob, none⟩ = some (.int .i64 (l : Int)) := by
          rw [World.cell?_of_block (a := ⟨gb, ob, none⟩) (w := w2) (KP.out gb hgb2 (by omega))]
          have := (hgc 0 hq).1
          rw [Nat.add_zero, ht] at this
          exact this
        have hLc := HLS0.out.next BW.out
        obtain ⟨f1, _⟩ := hLc.2 l hllt
        have l0 : (0 : Int) ≤ (l : Int) := by omega
        have l1' : (l : Int) < (len : Int) := by omega
        have wr2 : Below wr.heap.size wr (wr.alloc (.cells #[.int .i64 ((F l : Nat) : Int)] 3)) := (Below.refl _ _).alloc (Nat.le_refl _) _
        clear hl hlg ht hx1 hx2 hx3 hx4 hgc hLc
        go_wp2_with (at_builtin; refine wpList_append_own_at _ rfl _ _ 23 rfl w.heap.size 3 i0 (.int .i64 0) 1 8 Try.underlying23 hi hz0 hz1 hz2 rfl (by decide) _ _ _ rfl (OW.out.alloc _) ⟨wr.heap.size, 0, none⟩ 1 1 [.int .i64 ((F l : Nat) : Int)] rfl rfl (by intro i u hi; match i, hi with | 0, hi => simp at hi; subst hi; simp [Addr.add]) (by intro u hu; simp at hu; subst hu; rfl) (by unfold maxLen; omega) (by omega) (by simp; omega) ?_; intro v7 w7 hown7 hg7 _ hl7; have B7 := Lib.hid ((BW.out.trans (wr2.mono hsz)).grown hg7 (Nat.le_trans hsz wr2.size) (fun k hk => (OW.out.lt k hk).1)); have HG7 := Lib.hid hg7; have HL7 := Lib.hid hl7; have O7 := Lib.hid (show w7.ownsRow w.heap.size 3 1 v7 (y + 1) (((LS.take (y + 1)).map fun a => ((F a : Nat) : Int)).map (.int .i64)) by rw [fac_snoc hyl HL.out, List.map_append]; exact hown7); clear hown7 hg7 hl7)
        go_roundg (nl - (y + 1))
        case measure => omega
        case rel =>
          have sz7 := HG7.out.size
          rw [World.size_alloc] at sz7
          refine ⟨y + 1, by omega, by omega, by go_num, O7.out, B7.out, by omega, fun k hk hkU => ?_, fun g e => ?_⟩
          · rw [HG7.out.block k (by rw [World.size_alloc]; omega) (fun e => by rcases AT.out k e.symm with h | h <;> omega), heap_alloc_other wr _ k (by omega), KP.out k hk hkU]
          · rcases HL7.out with h | h
            · exact AT.out g (h ▸ e)
            · rw [e] at h
              simp only [World.size_alloc, Option.some.injEq] at h
              omega
      · have hym : y = nl := by omega
        subst hym
        go_wp2
        go_ret2
        refine ⟨_, rfl, ?_, BW.out⟩
        rw [HZL.out]
        have hd := SliceOut.of_row OW.out (by rw [List.length_map, List.length_take, HNL.out, Nat.min_self]) (by omega)
        rw [List.take_of_length_le (by rw [HNL.out]; exact Nat.le_refl _)] at hd
        exact hd

end Go.Proofs.Ytcbodedpahdobaa
