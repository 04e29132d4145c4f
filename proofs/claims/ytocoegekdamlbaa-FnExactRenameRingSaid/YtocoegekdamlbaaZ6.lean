
/- A renamed ring, as the reading side makes it. -/
import Derived.Test.YtocoegekdamlbaaZ4
namespace Go.Proofs.Ytocoegekdamlbaa
open Go.RowKit
set_option maxRecDepth 100000

/-- The names lie in a world. -/
def NmAt (w : World) (gb off m : Nat) (Z : List Int) : Prop := gb < w.heap.size ∧ ∀ k, k < m → w.cell? ⟨gb, off + k, none⟩ = some (.int .i64 (nu Z k : Nat))
theorem NmAt.next {w w' : World} {gb off m : Nat} {Z : List Int} (h : NmAt w gb off m Z) (hb : Below w.heap.size w w') : NmAt w' gb off m Z :=
  ⟨Nat.lt_of_lt_of_le h.1 hb.size, fun k hk => (hb.cell (p := ⟨gb, off + k, none⟩) h.1).trans (h.2 k hk)⟩
theorem nmAt_of {w : World} {F : Option Addr} {m : Nat} {Z : List Int} (hm : 1 ≤ m) (h : Ints w w.heap.size F m Z) (hZ : NamesOk m Z) : ∃ gb off, F = some ⟨gb, off, none⟩ ∧ NmAt w gb off m Z := by
  obtain ⟨b, off, e, hb, hc⟩ := h.2 hm
  refine ⟨b, off, e, hb, fun k hk => ?_⟩
  have hk' : k < Z.length := by rw [hZ.length]; exact hk
  have := hc k _ (List.getElem?_eq_getElem hk')
  have hg := (hZ.get hk).1
  rw [List.getElem?_eq_getElem hk'] at hg
  rw [this]
  simp only [Option.getD_some] at hg
  rw [hg]

/-- Where a place of the old tables lies in the new ones. -/
def atOf (m : Nat) (Z : List Int) (k : Nat) : Nat := nu Z (k / m) * m + nu Z (k % m)
def fromOf (m : Nat) (Z : List Int) (p : Nat) : Nat := ro Z (p / m) * m + ro Z (p % m)
theorem atOf_lt {m : Nat} {Z : List Int} (h : NamesOk m Z) {k : Nat} (hk : k < m * m) : atOf m Z k < m * m := by
  obtain ⟨h1, h2⟩ := parts2 hk
  exact idx_lt (h.get h1).2 (h.get h2).2
theorem fromOf_lt {m : Nat} {Z : List Int} (h : NamesOk m Z) {p : Nat} (hp : p < m * m) : fromOf m Z p < m * m := by
  obtain ⟨h1, h2⟩ := parts2 hp
  exact idx_lt (h.idx h1).2.1 (h.idx h2).2.1
theorem fromOf_iff {m : Nat} {Z : List Int} (h : NamesOk m Z) {p k : Nat} (hp : p < m * m) (hk : k < m * m) : fromOf m Z p = k ↔ p = atOf m Z k := by
  obtain ⟨p1, p2⟩ := parts2 hp
  obtain ⟨k1, k2⟩ := parts2 hk
  constructor
  · rintro rfl
    unfold atOf fromOf
    obtain ⟨e1, e2⟩ := idx_parts (a := ro Z (p / m)) (h.idx p2).2.1
    rw [e1, e2, (h.idx p1).2.2, (h.idx p2).2.2, Nat.mul_comm, Nat.div_add_mod]
  · rintro rfl
    unfold atOf fromOf
    obtain ⟨e1, e2⟩ := idx_parts (a := nu Z (k / m)) (h.get k2).2
    rw [e1, e2, h.back k1, h.back k2, Nat.mul_comm, Nat.div_add_mod]
/-- A new table, of which so many places have been written. -/
def rnA (m : Nat) (Z : List Int) (S : Nat → Nat) (k : Nat) : Array Value := (Array.range (m * m)).map fun p => .int .i64 (if fromOf m Z p < k then ((nu Z (S (fromOf m Z p)) : Nat) : Int) else 0)
theorem rnA_size {m : Nat} {Z : List Int} {S : Nat → Nat} {k : Nat} : (rnA m Z S k).size = m * m := by simp [rnA]
theorem rnA_zero {m : Nat} {Z : List Int} {S : Nat → Nat} : madeCells #[.int .i64 0] (m * m) = rnA m Z S 0 := by
  apply Array.ext
  · simp [madeCells, rnA]
  · intro i h1 h2
    simp [madeCells, rnA, Nat.mod_one]
theorem rnA_set {m : Nat} {Z : List Int} {S : Nat → Nat} {k : Nat} (h : NamesOk m Z) (hk : k < m * m) : (rnA m Z S k).setIfInBounds (atOf m Z k) (.int .i64 (nu Z (S k) : Nat)) = rnA m Z S (k + 1) := by
  apply Array.ext
  · simp [rnA]
  · intro i h1 h2
    have hi : i < m * m := by rw [rnA_size] at h2; exact h2
    rw [Array.getElem_setIfInBounds (by rw [rnA_size]; exact hi)]
    simp only [rnA, Array.getElem_map, Array.getElem_range]
    have hf := fromOf_iff h hi hk
    split
    · rename_i e
      have := hf.2 e.symm
      rw [this, if_pos (Nat.lt_succ_self _)]
    · rename_i e
      have hne : fromOf m Z i ≠ k := fun h => e (hf.1 h).symm
      congr 1
      by_cases hlt : fromOf m Z i < k
      · rw [if_pos hlt, if_pos (by omega)]
      · rw [if_neg hlt, if_neg (by omega)]
theorem rnA_list {m : Nat} {Z : List Int} {S : Nat → Nat} (h : NamesOk m Z) : (rnA m Z S (m * m)).toList = (tabZ m (fun a b => nu Z (S (ro Z a * m + ro Z b))) (m * m)).map (.int .i64) := by
  unfold rnA tabZ
  rw [Array.toList_map, Array.toList_range, List.map_map]
  apply List.map_congr_left
  intro p hp
  rw [List.mem_range] at hp
  simp only [Function.comp]
  rw [if_pos (fromOf_lt h hp)]
  rfl
theorem rnA_own {w : World} {D g m : Nat} {Z : List Int} {S : Nat → Nat} (h : NamesOk m Z) (hm' : m ≤ 16) (hg : Blk w g 3 (rnA m Z S (m * m))) (hD : D ≤ g) :
    w.ownsRow D 3 1 (.slice (some ⟨g, 0, none⟩) (m * m) (m * m)) (m * m) ((tabZ m (fun a b => nu Z (S (ro Z a * m + ro Z b))) (m * m)).map (.int .i64)) :=
  ⟨by simp [tabZ], .inr ⟨g, m * m, _, rfl, hD, hg, Nat.le_refl _, by have := sqR hm'; unfold maxLen; omega, by rw [rnA_size, Nat.mul_one], by
    rw [← rnA_list h, Nat.mul_one, List.take_of_length_le (by rw [Array.length_toList, rnA_size]; exact Nat.le_refl _)]⟩⟩

theorem rnA_get {m : Nat} {Z : List Int} {S : Nat → Nat} {k p : Nat} (hp : p < m * m) : ∃ v, (rnA m Z S k)[p]? = some v := ⟨_, Array.getElem?_eq_getElem (by rw [rnA_size]; exact hp)⟩
theorem store4_far {w : World} {b g : Nat} {t : TypeId} {cs : Array Value} {v0 v1 v2 v3 : Value} (h : Blk w g t cs) (hne : g ≠ b) : Blk (store4 w b v0 v1 v2 v3) g t cs := (((h.far hne _).far hne _).far hne _).far hne _
theorem mulR {x y m : Nat} (hx : x < m) (hy : y < m) (hm : m ≤ 16) : (x : Int) * m ≤ 256 ∧ 0 ≤ (x : Int) * m ∧ (x : Int) * m + y ≤ 300 ∧ (x : Int) * m + y = ((x * m + y : Nat) : Int) := by
  have h1 : x * m ≤ 16 * 16 := Nat.mul_le_mul (by omega) hm
  have e : (x : Int) * m = ((x * m : Nat) : Int) := by simp
  rw [e]
  omega

def rnPhi (D m : Nat) (i : Nat) (v : Value) (w : World) : Prop :=
  if i = 20 then ∃ g, v = .pointer (some ⟨g, 0, none⟩) ∧ D ≤ g ∧ Blk w g 28 #[.int .i64 0, .int .i64 0, .slice none 0 0, .slice none 0 0]
  else ∃ g, v = .slice (some ⟨g, 0, none⟩) (m * m) (m * m) ∧ D ≤ g ∧ Blk w g 3 (madeCells #[.int .i64 0] (m * m))
theorem rnPhi_stable {D m : Nat} (i : Nat) (v : Value) (w w' : World) (h : rnPhi D m i v w) (hb : Below w.heap.size w w') : rnPhi D m i v w' := by
  unfold rnPhi at *
  split
  · rename_i e
    rw [if_pos e] at h
    obtain ⟨g, h1, h2, h3⟩ := h
    exact ⟨g, h1, h2, h3.below hb h3.lt⟩
  · rename_i e
    rw [if_neg e] at h
    obtain ⟨g, h1, h2, h3⟩ := h
    exact ⟨g, h1, h2, h3.below hb h3.lt⟩
def rnSh (m : Nat) (i : Nat) (v : Value) : Prop := if i = 20 then ∃ g, v = .pointer (some ⟨g, 0, none⟩) else ∃ g, v = .slice (some ⟨g, 0, none⟩) (m * m) (m * m)
theorem rnSh_of {D m : Nat} (i : Nat) (v : Value) (w : World) (h : rnPhi D m i v w) : rnSh m i v := by
  unfold rnPhi at h
  unfold rnSh
  split <;> rename_i e
  · rw [if_pos e] at h
    exact ⟨h.choose, h.choose_spec.1⟩
  · rw [if_neg e] at h
    exact ⟨h.choose, h.choose_spec.1⟩
def rnMk (i : Nat) : Bool := i == 12 || i == 18 || i == 20

set_option maxHeartbeats 8000000 in
theorem l2Renamed_any (m e b1 o1 la ca b2 o2 lb cb : Nat) (S P : Nat → Nat) (F : Option Addr) (lf cf : Nat) (Z : List Int) (w : World) (hr : RingAt w m e b1 o1 la ca b2 o2 lb cb S P) (hF : Ints w w.heap.size F lf Z) (hZ : NamesOk m Z) :
    Calls Try.prog 59 #[.agg #[.int .i64 m, .int .i64 e, .slice (some ⟨b1, o1, none⟩) la ca, .slice (some ⟨b2, o2, none⟩) lb cb], .slice F lf cf] w fun e' w' =>
      ∃ v, e' = .returned v ∧ NewRing w.heap.size w' v m ((nu Z e : Nat) : Int) (m * m) (tabZ m (fun a b => nu Z (S (ro Z a * m + ro Z b))) (m * m)) (tabZ m (fun a b => nu Z (P (ro Z a * m + ro Z b))) (m * m)) ∧ Below w.heap.size w w' := by
  have hl : lf = m := by rw [← hF.1, hZ.length]
  subst hl
  have hm := hr.hm
  have hm' := hr.hm'
  have he := hr.he
  obtain ⟨gb, off, rfl, hN⟩ := nmAt_of hm hF hZ
  obtain ⟨s1, s2, s3, s4⟩ := sqI hm'
  have S3 := Lib.hid s3
  have HR := Lib.hid hr
  have HN := Lib.hid hN
  have HZ := Lib.hid hZ
  obtain ⟨z0, hz0⟩ : ∃ z, nu Z e = z := ⟨_, rfl⟩
  rw [hz0]
  have HZ0 := Lib.hid hz0
  clear s3 hr hF hN hZ hz0
  go_enter Try.func59, Try.ntmps59
  go_upto_region 1 with (fail)
  obtain ⟨W, hW⟩ : ∃ W, (w.alloc (.cells #[.int .i64 lf, .int .i64 e, .slice (some ⟨b1, o1, none⟩) la ca, .slice (some ⟨b2, o2, none⟩) lb cb] 28)).alloc (.cells #[.int .i64 0, .int .i64 0, .slice none 0 0, .slice none 0 0] 28) = W := ⟨_, rfl⟩
  obtain ⟨D, hD⟩ : ∃ D, D = w.heap.size + 1 + 1 := ⟨_, rfl⟩
  have kR : Blk W w.heap.size 28 #[.int .i64 lf, .int .i64 e, .slice (some ⟨b1, o1, none⟩) la ca, .slice (some ⟨b2, o2, none⟩) lb cb] := by
    subst hW; exact (Blk.new w _ _).alloc _
  have kZ : Blk W (w.heap.size + 1) 28 #[.int .i64 0, .int .i64 0, .slice none 0 0, .slice none 0 0] := by
    subst hW
    have := Blk.new (w.alloc (.cells #[.int .i64 lf, .int .i64 e, .slice (some ⟨b1, o1, none⟩) la ca, .slice (some ⟨b2, o2, none⟩) lb cb] 28)) 28 #[.int .i64 0, .int .i64 0, .slice none 0 0, .slice none 0 0]
    rw [World.size_alloc] at this
    exact this
  have bW : Below w.heap.size w W := by
    subst hW
    exact ((Below.refl _ _).alloc (Nat.le_refl _) _).alloc (by simp) _
  have dW : D ≤ W.heap.size := by rw [hD]; exact kZ.lt
  rw [hW]
  clear hW
  have KR := Lib.hid kR
  have KZ := Lib.hid kZ
  have BW := Lib.hid bW
  have HD := Lib.hid hD
  have DW := Lib.hid dW
  clear kR kZ bW hD dW
  refine wp_region_makers 21 rnMk (rnPhi D lf) (rnSh lf) (fun i => if i = 20 then .pointer (some ⟨0, 0, none⟩) else .slice (some ⟨0, 0, none⟩) (lf * lf) (lf * lf)) probe (by kernel_rfl) (by kernel_rfl) rnPhi_stable (fun i v x _ => rnSh_of i v x)
    (fun i _ => by unfold rnSh; split <;> simp) ?_
  intro W1 hW1 vs hvs
  obtain ⟨g1, e1⟩ : ∃ g, vs 12 = .slice (some ⟨g, 0, none⟩) (lf * lf) (lf * lf) := hvs 12 rfl
  obtain ⟨g2, e2⟩ : ∃ g, vs 18 = .slice (some ⟨g, 0, none⟩) (lf * lf) (lf * lf) := hvs 18 rfl
  obtain ⟨bx, e3⟩ : ∃ g, vs 20 = .pointer (some ⟨g, 0, none⟩) := hvs 20 rfl
  have cW : ∃ x, extC W1 x := ⟨W1, extC_of (Below.refl _ _)⟩
  have big : ∀ x, extC W1 x → D ≤ x.heap.size := fun x ⟨u, hu⟩ => by rw [hu]; exact Nat.le_trans (Nat.le_trans DW.out hW1.size) (ext_size W1 u)
  have KR1 := Lib.hid (KR.out.next hW1)
  have c0 := KR1.out.cell 0
  have c1 := KR1.out.cell 1
  simp at c0 c1
  have HN1 := Lib.hid ((HN.out.next BW.out).next hW1)
  have hcz := HN1.out.2 e he
  rw [HZ0.out] at hcz
  simp only [List.take_succ_cons, List.take_zero, List.drop_succ_cons, List.drop_zero]
  refine wpV_quiet cW 12 0 _ _ (by decide) (by decide) ?_
  simp only [List.take_succ_cons, List.take_zero, List.drop_succ_cons, List.drop_zero]
  repeat (go_big_quiet_step (fail))
  refine wpQuiet_nil ?_
  refine wpV_make' rfl rfl (fun x hx => makesAt_mono (makes_row _ _ (lf * lf) (lf * lf) _ _ rfl (by rw [← S3.out]; rfl) (by rw [← S3.out]; rfl) (Nat.le_refl _) (by omega) x) fun v x' ⟨g, h1, h2, h3⟩ => ⟨g, h1, Nat.le_trans (big x hx) h2, h3⟩) ?_
  rw [e1]
  go_simp
  refine wpV_quiet cW 5 _ _ _ (by decide) (by decide) ?_
  simp only [List.take_succ_cons, List.take_zero, List.drop_succ_cons, List.drop_zero]
  repeat (go_big_quiet_step (fail))
  refine wpQuiet_nil ?_
  refine wpV_make' rfl rfl (fun x hx => makesAt_mono (makes_row _ _ (lf * lf) (lf * lf) _ _ rfl (by rw [← S3.out]; rfl) (by rw [← S3.out]; rfl) (Nat.le_refl _) (by omega) x) fun v x' ⟨g, h1, h2, h3⟩ => ⟨g, h1, Nat.le_trans (big x hx) h2, h3⟩) ?_
  rw [e2]
  go_simp
  refine wpV_quiet cW 1 _ _ _ (by decide) (by decide) ?_
  simp only [List.take_succ_cons, List.take_zero, List.drop_succ_cons, List.drop_zero]
  repeat (go_big_quiet_step (fail))
  refine wpQuiet_nil ?_
  refine wpV_make' rfl rfl (fun x hx => makesAt_mono (makes_box rfl x) fun v x' ⟨g, h1, h2, h3⟩ => ⟨g, h1, Nat.le_trans (big x hx) h2, h3⟩) ?_
  rw [e3]
  go_simp
  refine wpV_nil ?_
  intro w2 hb2 hfacts hapart
  have n12 : g1 ≠ g2 := fun e => hapart 12 18 (by omega) (by omega) (by omega) rfl rfl g1 (by rw [e1]; rfl) (by rw [e2, e]; rfl)
  obtain ⟨d1, r1⟩ : D ≤ g1 ∧ Blk w2 g1 3 (madeCells #[.int .i64 0] (lf * lf)) := by
    obtain ⟨g, h1, h2, h3⟩ := hfacts 12 (by omega) rfl
    rw [e1] at h1
    simp at h1
    subst h1
    exact ⟨h2, h3⟩
  obtain ⟨d2, r2⟩ : D ≤ g2 ∧ Blk w2 g2 3 (madeCells #[.int .i64 0] (lf * lf)) := by
    obtain ⟨g, h1, h2, h3⟩ := hfacts 18 (by omega) rfl
    rw [e2] at h1
    simp at h1
    subst h1
    exact ⟨h2, h3⟩
  obtain ⟨d3, r3⟩ : D ≤ bx ∧ Blk w2 bx 28 #[.int .i64 0, .int .i64 0, .slice none 0 0, .slice none 0 0] := by
    obtain ⟨g, h1, h2, h3⟩ := hfacts 20 (by omega) rfl
    rw [e3] at h1
    simp at h1
    subst h1
    exact ⟨h2, h3⟩
  clear hfacts hapart hvs e1 e2 e3 c0 c1
  have nb1 : g1 ≠ bx := blk_ne (t := 3) (t' := 28) r1 r3 (by decide)
  have nb2 : g2 ≠ bx := blk_ne (t := 3) (t' := 28) r2 r3 (by decide)
  rw [rnA_zero (Z := Z) (S := S)] at r1
  rw [rnA_zero (Z := Z) (S := P)] at r2
  have c0 := r3.cell 0
  have c1 := r3.cell 1
  have c2 := r3.cell 2
  have c3 := r3.cell 3
  have f0 := r3.frozen 0
  have f1 := r3.frozen 1
  have f2 := r3.frozen 2
  have f3 := r3.frozen 3
  simp at c0 c1 c2 c3
  go_upto_region 2 with (fail)
  obtain ⟨V, hV⟩ : ∃ V, store4 w2 bx (.int .i64 lf) (.int .i64 z0) (.slice (some ⟨g1, 0, none⟩) (lf * lf) (lf * lf)) (.slice (some ⟨g2, 0, none⟩) (lf * lf) (lf * lf)) = V := ⟨_, rfl⟩
  have hV' := hV
  unfold store4 at hV'
  have K1V := Lib.hid (show Blk V g1 3 (rnA lf Z S 0) by rw [← hV]; exact store4_far r1 nb1)
  have K2V := Lib.hid (show Blk V g2 3 (rnA lf Z P 0) by rw [← hV]; exact store4_far r2 nb2)
  have KBV := Lib.hid (show Blk V bx 28 #[.int .i64 lf, .int .i64 z0, .slice (some ⟨g1, 0, none⟩) (lf * lf) (lf * lf), .slice (some ⟨g2, 0, none⟩) (lf * lf) (lf * lf)] by rw [← hV]; exact store4_blk r3)
  have BBV := Lib.hid (show Below D W V by rw [← hV]; exact store4_below (hb2.mono DW.out) d3)
  rw [hV']
  have ltR : w.heap.size < D := by have := HD.out; omega
  have ltZ : w.heap.size + 1 < D := by have := HD.out; omega
  have KRV := KR.out.below BBV.out ltR
  clear hV hV' c0 c1 c2 c3 f0 f1 f2 f3 r1 r2 r3 hb2 hW1 big cW hcz
  have c0 := KRV.cell 0
  simp at c0
  go_wp2_with (fail)
  clear c0 KRV
  go_loopw [33] (fun i wr => ∃ k : Nat, k ≤ lf * lf ∧ i = .int .i64 k ∧ Blk wr g1 3 (rnA lf Z S k) ∧ Blk wr g2 3 (rnA lf Z P k) ∧ Blk wr bx 28 #[.int .i64 lf, .int .i64 z0, .slice (some ⟨g1, 0, none⟩) (lf * lf) (lf * lf), .slice (some ⟨g2, 0, none⟩) (lf * lf) (lf * lf)] ∧ Below D W wr) (fun i _ => lf * lf - (intOf i).toNat)
  case atStart => exact ⟨0, Nat.zero_le _, rfl, K1V.out, K2V.out, KBV.out, BBV.out⟩
  case round =>
    obtain ⟨k, hk, rfl, h1, h2, h3, hb⟩ := hrel
    have K1wr := Lib.hid h1
    have K2wr := Lib.hid h2
    have KBwr := Lib.hid h3
    have BBwr := Lib.hid hb
    have DSwr := Lib.hid (show D ≤ wr.heap.size from Nat.le_trans DW.out hb.size)
    have KRwr := Lib.hid (KR.out.below hb ltR)
    have KZwr := Lib.hid (KZ.out.below hb ltZ)
    have BXwr := Lib.hid (BW.out.trans (hb.mono (Nat.le_of_lt ltR)))
    have HRwr := Lib.hid (HR.out.next BXwr.out)
    have HNwr := Lib.hid (HN.out.next BXwr.out)
    clear h1 h2 h3 hb
    by_cases hlt : k < lf * lf
    · have i1 : (k : Int) < (lf : Int) * lf := by rw [S3.out]; omega
      obtain ⟨p1, p2⟩ := parts2 hlt
      obtain ⟨p, ep⟩ : ∃ p : Nat, p = atOf lf Z k := ⟨_, rfl⟩
      have hp : p < lf * lf := by rw [ep]; exact atOf_lt HZ.out hlt
      have EP := Lib.hid ep
      unfold atOf at ep
      obtain ⟨A, eA⟩ : ∃ A : Nat, A = k / lf := ⟨_, rfl⟩
      obtain ⟨B, eB⟩ : ∃ B : Nat, B = k % lf := ⟨_, rfl⟩
      have f1 : (k : Int) / lf = (A : Int) := by rw [eA]; simp
      have f2 : (k : Int) % lf = (B : Int) := by rw [eB]; simp
      rw [← eA] at p1 ep
      rw [← eB] at p2 ep
      obtain ⟨_, la'⟩ := HZ.out.get p1
      obtain ⟨_, lb'⟩ := HZ.out.get p2
      obtain ⟨x1, x2, x3, x4⟩ := mulR la' lb' hm'
      rw [← ep] at x4
      have hNA := Lib.hid (show ∀ x, NmAt x gb off lf Z → x.cell? ⟨gb, off + A, none⟩ = some (.int .i64 (nu Z A : Nat)) from fun x h => h.2 A p1)
      have hNB := Lib.hid (show ∀ x, NmAt x gb off lf Z → x.cell? ⟨gb, off + B, none⟩ = some (.int .i64 (nu Z B : Nat)) from fun x h => h.2 B p2)
      obtain ⟨a', ea'⟩ : ∃ y, nu Z A = y := ⟨_, rfl⟩
      obtain ⟨b', eb'⟩ : ∃ y, nu Z B = y := ⟨_, rfl⟩
      rw [ea'] at la' x1 x2 x3 x4 hNA
      rw [eb'] at lb' x3 x4 hNB
      have n3 : ¬ lf = 0 := by omega
      clear eA eB ea' eb' ep
      go_wp2_with (fail)
      refine wp_region_makers 18 (fun _ => false) (fun _ _ _ => True) (fun _ _ => True) (fun _ => undef) probe (by kernel_rfl) (by kernel_rfl) (fun _ _ _ _ _ _ => trivial) (fun _ _ _ _ _ => trivial) (fun _ _ => trivial) ?_
      intro V1 hV1 vs1 _
      have cV1 : ∃ x, extC V1 x := ⟨V1, extC_of (Below.refl _ _)⟩
      have c0 := (KRwr.out.next hV1).cell 0
      simp at c0
      have cA := hNA.out _ (HNwr.out.next hV1)
      have cB := hNB.out _ (HNwr.out.next hV1)
      simp only [List.take_succ_cons, List.take_zero, List.drop_succ_cons, List.drop_zero]
      refine wpV_quiet cV1 18 0 _ _ (by decide) (by decide) ?_
      simp only [List.take_succ_cons, List.take_zero, List.drop_succ_cons, List.drop_zero]
      repeat (go_big_quiet_step (fail))
      refine wpQuiet_nil ?_
      refine wpV_nil ?_
      intro w3 hb3 _ _
      have K1w3 := Lib.hid (K1wr.out.next hb3)
      have K2w3 := Lib.hid (K2wr.out.next hb3)
      have KBw3 := Lib.hid (KBwr.out.next hb3)
      have BBw3 := Lib.hid (show Below D W w3 from BBwr.out.trans (hb3.mono DSwr.out))
      have DSw3 := Lib.hid (show D ≤ w3.heap.size from Nat.le_trans DW.out BBw3.out.size)
      have KRw3 := Lib.hid (KR.out.below BBw3.out ltR)
      have BXw3 := Lib.hid (BW.out.trans (BBw3.out.mono (Nat.le_of_lt ltR)))
      have HRw3 := Lib.hid (HR.out.next BXw3.out)
      have HNw3 := Lib.hid (HN.out.next BXw3.out)
      clear hV1 c0 cA cB cV1 hb3 x1 x2 x3 f1 f2
      go_wp2_with (fail)
      refine wp_region_makers 12 (fun _ => false) (fun _ _ _ => True) (fun _ _ => True) (fun _ => undef) probe (by kernel_rfl) (by kernel_rfl) (fun _ _ _ _ _ _ => trivial) (fun _ _ _ _ _ => trivial) (fun _ _ => trivial) ?_
      intro V2 hV2 vsa _
      have cVa : ∃ x, extC V2 x := ⟨V2, extC_of (Below.refl _ _)⟩
      have xba := (KBw3.out.next hV2).cell 2
      have xra := (KRw3.out.next hV2).cell 2
      simp at xba xra
      have xta : V2.cell? ⟨b1, o1 + k, none⟩ = some (.int .i64 (S k : Nat)) := ((HRw3.out.next hV2).ts.2 k hlt).1
      have xla : S k < lf := ((HRw3.out.next hV2).ts.2 k hlt).2
      obtain ⟨ska, hska⟩ : ∃ y, S k = y := ⟨_, rfl⟩
      rw [hska] at xta xla
      have xna := (HNw3.out.next hV2).2 ska xla
      obtain ⟨sva, hsva⟩ : ∃ y, nu Z ska = y := ⟨_, rfl⟩
      rw [hsva] at xna
      have SVa := Lib.hid (show nu Z (S k) = sva by rw [hska, hsva])
      have hka : k < la := by rw [HR.out.hla]; exact hlt
      clear hska hsva
      simp only [List.take_succ_cons, List.take_zero, List.drop_succ_cons, List.drop_zero]
      refine wpV_quiet cVa 12 0 _ _ (by decide) (by decide) ?_
      simp only [List.take_succ_cons, List.take_zero, List.drop_succ_cons, List.drop_zero]
      repeat (go_big_quiet_step (fail))
      refine wpQuiet_nil ?_
      refine wpV_nil ?_
      intro w4 hbw4 _ _
      obtain ⟨ova, hova⟩ := rnA_get (Z := Z) (S := S) (k := k) hp
      have ta := K1w3.out.next hbw4
      have tca := (ta.cell p).trans hova
      have tfa := ta.frozen p
      have Da := Lib.hid (show Below D W w4 from BBw3.out.trans (hbw4.mono DSw3.out))
      go_wp2_with (fail)
      obtain ⟨w5, hw5⟩ : ∃ x, w4.setCell ⟨g1, p, none⟩ (.int .i64 (sva : Nat)) = x := ⟨_, rfl⟩
      have K1w5 := Lib.hid (show Blk w5 g1 3 (rnA lf Z S (k + 1)) by
        rw [← hw5, ← rnA_set HZ.out hlt, SVa.out, ← EP.out]
        exact ta.set_ p _)
      have K2w5 := Lib.hid (show Blk w5 g2 3 (rnA lf Z P k) by
        rw [← hw5]; exact (K2w3.out.next hbw4).far n12.symm _)
      have KBw5 := Lib.hid (show Blk w5 bx 28 #[.int .i64 lf, .int .i64 z0, .slice (some ⟨g1, 0, none⟩) (lf * lf) (lf * lf), .slice (some ⟨g2, 0, none⟩) (lf * lf) (lf * lf)] by
        rw [← hw5]; exact (KBw3.out.next hbw4).far nb1.symm _)
      have BBw5 := Lib.hid (show Below D W w5 by rw [← hw5]; exact Da.out.setCell (p := ⟨g1, p, none⟩) d1 _)
      have DSw5 := Lib.hid (show D ≤ w5.heap.size from Nat.le_trans DW.out BBw5.out.size)
      have KRw5 := Lib.hid (KR.out.below BBw5.out ltR)
      have KZw5 := Lib.hid (KZ.out.below BBw5.out ltZ)
      have BXw5 := Lib.hid (BW.out.trans (BBw5.out.mono (Nat.le_of_lt ltR)))
      have HRw5 := Lib.hid (HR.out.next BXw5.out)
      have HNw5 := Lib.hid (HN.out.next BXw5.out)
      rw [hw5]
      clear hw5 ta tca tfa hova xba xra xta xna hV2 hbw4 cVa
      go_wp2_with (fail)
      refine wp_region_makers 12 (fun _ => false) (fun _ _ _ => True) (fun _ _ => True) (fun _ => undef) probe (by kernel_rfl) (by kernel_rfl) (fun _ _ _ _ _ _ => trivial) (fun _ _ _ _ _ => trivial) (fun _ _ => trivial) ?_
      intro V3 hV3 vsb _
      have cVb : ∃ x, extC V3 x := ⟨V3, extC_of (Below.refl _ _)⟩
      have xbb := (KBw5.out.next hV3).cell 3
      have xrb := (KRw5.out.next hV3).cell 3
      simp at xbb xrb
      have xtb : V3.cell? ⟨b2, o2 + k, none⟩ = some (.int .i64 (P k : Nat)) := ((HRw5.out.next hV3).tp.2 k hlt).1
      have xlb : P k < lf := ((HRw5.out.next hV3).tp.2 k hlt).2
      obtain ⟨skb, hskb⟩ : ∃ y, P k = y := ⟨_, rfl⟩
      rw [hskb] at xtb xlb
      have xnb := (HNw5.out.next hV3).2 skb xlb
      obtain ⟨svb, hsvb⟩ : ∃ y, nu Z skb = y := ⟨_, rfl⟩
      rw [hsvb] at xnb
      have SVb := Lib.hid (show nu Z (P k) = svb by rw [hskb, hsvb])
      have hkb : k < lb := by rw [HR.out.hlb]; exact hlt
      clear hskb hsvb
      simp only [List.take_succ_cons, List.take_zero, List.drop_succ_cons, List.drop_zero]
      refine wpV_quiet cVb 12 0 _ _ (by decide) (by decide) ?_
      simp only [List.take_succ_cons, List.take_zero, List.drop_succ_cons, List.drop_zero]
      repeat (go_big_quiet_step (fail))
      refine wpQuiet_nil ?_
      refine wpV_nil ?_
      intro w6 hbw6 _ _
      obtain ⟨ovb, hovb⟩ := rnA_get (Z := Z) (S := P) (k := k) hp
      have tb := K2w5.out.next hbw6
      have tcb := (tb.cell p).trans hovb
      have tfb := tb.frozen p
      have Db := Lib.hid (show Below D W w6 from BBw5.out.trans (hbw6.mono DSw5.out))
      go_wp2_with (fail)
      obtain ⟨w7, hw7⟩ : ∃ x, w6.setCell ⟨g2, p, none⟩ (.int .i64 (svb : Nat)) = x := ⟨_, rfl⟩
      have K2w7 := Lib.hid (show Blk w7 g2 3 (rnA lf Z P (k + 1)) by
        rw [← hw7, ← rnA_set HZ.out hlt, SVb.out, ← EP.out]
        exact tb.set_ p _)
      have K1w7 := Lib.hid (show Blk w7 g1 3 (rnA lf Z S (k + 1)) by
        rw [← hw7]; exact (K1w5.out.next hbw6).far n12 _)
      have KBw7 := Lib.hid (show Blk w7 bx 28 #[.int .i64 lf, .int .i64 z0, .slice (some ⟨g1, 0, none⟩) (lf * lf) (lf * lf), .slice (some ⟨g2, 0, none⟩) (lf * lf) (lf * lf)] by
        rw [← hw7]; exact (KBw5.out.next hbw6).far nb2.symm _)
      have BBw7 := Lib.hid (show Below D W w7 by rw [← hw7]; exact Db.out.setCell (p := ⟨g2, p, none⟩) d2 _)
      have DSw7 := Lib.hid (show D ≤ w7.heap.size from Nat.le_trans DW.out BBw7.out.size)
      have KRw7 := Lib.hid (KR.out.below BBw7.out ltR)
      have KZw7 := Lib.hid (KZ.out.below BBw7.out ltZ)
      have BXw7 := Lib.hid (BW.out.trans (BBw7.out.mono (Nat.le_of_lt ltR)))
      have HRw7 := Lib.hid (HR.out.next BXw7.out)
      have HNw7 := Lib.hid (HN.out.next BXw7.out)
      rw [hw7]
      clear hw7 tb tcb tfb hovb xbb xrb xtb xnb hV3 hbw6 cVb
      go_wp2
      go_roundw
      case rel => exact ⟨k + 1, by omega, by go_num, K1w7.out, K2w7.out, KBw7.out, BBw7.out⟩
      case measure => simp [intOf]; omega
    · have i1 : ¬ (k : Int) < (lf : Int) * lf := by rw [S3.out]; omega
      have hkm : k = lf * lf := by omega
      subst hkm
      have c0 := KBwr.out.cell 0
      have c1' := KBwr.out.cell 1
      have c2' := KBwr.out.cell 2
      have c3' := KBwr.out.cell 3
      have d0 := KZwr.out.cell 0
      have d1' := KZwr.out.cell 1
      have d2' := KZwr.out.cell 2
      have d3' := KZwr.out.cell 3
      have f0 := KZwr.out.frozen 0
      have f1 := KZwr.out.frozen 1
      have f2 := KZwr.out.frozen 2
      have f3 := KZwr.out.frozen 3
      simp at c0 c1' c2' c3' d0 d1' d2' d3'
      go_wp2
      refine bodyPost_ret (v := .agg #[.int .i64 lf, .int .i64 z0, .slice (some ⟨g1, 0, none⟩) (lf * lf) (lf * lf), .slice (some ⟨g2, 0, none⟩) (lf * lf) (lf * lf)]) ?_ rfl ⟨_, rfl, ?_, ?_⟩
      · exact results_cell_row Try.results59 _ _ (w.heap.size + 1) 28 _ (0, 0) _ rfl (store4_blk KZwr.out) Try.underlying28 rfl (by kernel_rfl)
      · exact NewRing.mono ⟨_, _, rfl, store4_own (rnA_own HZ.out hm' K1wr.out d1) (by simp [Value.ownBlock]; omega), store4_own (rnA_own HZ.out hm' K2wr.out d2) (by simp [Value.ownBlock]; omega), by
          intro g h1 h2
          simp [Value.ownBlock] at h1 h2
          omega⟩ (Nat.le_of_lt ltR)
      · exact store4_below BXwr.out (by omega)

end Go.Proofs.Ytocoegekdamlbaa
