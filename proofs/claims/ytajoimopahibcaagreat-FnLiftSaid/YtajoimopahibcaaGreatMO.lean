/- Texts of this seat in one: OA OB OC OD OE OF OI OJ OG OH OM ON OP OQ OR OT OU OV. -/
import Derived.Test.YtajoimopahibcaaGreatMN
import Derived.Deep.Cut
import Derived.Test.YtajoimopahibcaaGreatMC
import Derived.ArgAppend

/- The reading side's sets: put, the set of a list, the least ideal with some elements. -/
namespace Go.Proofs.YtajoimopahibcaaGreat
open Go.RowKit
set_option maxRecDepth 100000

section
variable {G c c' p : Nat → Bool} {b : Bool} {k : Nat}
theorem add_same (h : c k = true) : (fun i => c i || decide (i = k)) = c := bool_ext fun i => by
  rw [Bool.or_eq_true, decide_eq_true_iff]
  exact ⟨fun g => g.elim id (fun e => e ▸ h), .inl⟩
theorem filt_le (h : ∀ i, c i = true → c' i = true) : ∀ l : List Nat, (l.filter c).length ≤ (l.filter c').length
  | [] => Nat.le_refl _
  | x :: l => by
    have ih := filt_le h l
    have hx := h x
    cases h1 : c x <;> cases h2 : c' x <;> simp_all <;> omega
theorem filt_lt (h : ∀ i, c i = true → c' i = true) : ∀ l : List Nat, (∃ i ∈ l, c' i = true ∧ c i = false) → (l.filter c).length < (l.filter c').length
  | [], ⟨_, hi, _⟩ => absurd hi (by simp)
  | x :: l, ⟨i, hi, h1, h2⟩ => by
    have hx := h x
    rcases List.mem_cons.1 hi with rfl | hi
    · have := filt_le h l
      simp [h1, h2]
      omega
    · have ih := filt_lt h l ⟨i, hi, h1, h2⟩
      cases h3 : c x <;> cases h4 : c' x <;> simp_all <;> omega
theorem pl_len : (pl c).length ≤ 16 := by
  unfold pl
  have := List.length_filter_le c (List.range 16)
  simpa using this
/-- A pass over the elements, so far. -/
structure PassOk (G c c' : Nat → Bool) (b : Bool) : Prop where
  mono : ∀ i, c i = true → c' i = true
  le : ∀ i, c' i = true → G i = true
  grown : b = true → ∃ i, i < 16 ∧ c' i = true ∧ c i = false
  same : b = false → c' = c
theorem PassOk.start (h : ∀ i, c i = true → G i = true) : PassOk G c c false := ⟨fun _ h => h, h, fun e => (by cases e), fun _ => rfl⟩
theorem PassOk.add (h : PassOk G c c' b) (hG : G k = true) (hk : k < 16) (hn : c' k = false) : PassOk G c (fun i => c' i || decide (i = k)) true where
  mono := fun i hi => by rw [h.mono i hi]; rfl
  le := fun i hi => by
    rw [Bool.or_eq_true, decide_eq_true_iff] at hi
    exact hi.elim (h.le i) (fun e => e ▸ hG)
  grown := fun _ => ⟨k, hk, by simp, by
    cases e : c k
    · rfl
    · rw [h.mono k e] at hn; cases hn⟩
  same := fun e => by cases e
theorem PassOk.len (h : PassOk G c c' true) : (pl c).length < (pl c').length := by
  obtain ⟨i, h1, h2, h3⟩ := h.grown rfl
  exact filt_lt h.mono _ ⟨i, List.mem_range.2 h1, h2, h3⟩
/-- Products with an element, and its sum with one that is there, are there. -/
def ClAt (m : Nat) (S P : Nat → Nat) (c : Nat → Bool) (a y : Nat) : Prop := c (P (a * m + y)) = true ∧ (c y = true → c (S (a * m + y)) = true)
def ClTo (m : Nat) (S P : Nat → Nat) (c : Nat → Bool) (a k : Nat) : Prop := ∀ y, y < k → ClAt m S P c a y
def ClAll (m : Nat) (S P : Nat → Nat) (c : Nat → Bool) (k : Nat) : Prop := ∀ a, a < k → c a = true → ClTo m S P c a m
end

set_option maxHeartbeats 1000000 in
theorem sput_any (g a : Nat) (c : Nat → Bool) (w : World) (hb : Blk w g 59 (setP c)) (ha : a < 16) :
    Calls Tryz.prog 97 #[.pointer (some ⟨g, 0, none⟩), .int .i64 a] w fun e w' => e = .returned (.bool (!c a)) ∧ w' = w.setCell ⟨g, a, none⟩ (.bool true) := by
  have hx0 : (0 : Int) ≤ (a : Int) := by omega
  have hx1 : (a : Int) < 16 := by omega
  have hc := (hb.cell a).trans (setP_get ha)
  have hf := hb.frozen a
  have hl := hb.lt
  clear hb
  go_enter Tryz.func97, Tryz.ntmps97
  go_wp2
  go_ret
  exact ⟨rfl, rfl⟩

theorem sset_info {S : Array Value} (h : S.size = 16) : (Tryz.prog.info? 59).map (·.size) = some S.size := by rw [h]; kernel_rfl

set_option maxHeartbeats 4000000 in
theorem l4Of_any (m : Nat) (A : Option Addr) (len cap : Nat) (LF : List (Fin m)) (w : World) (hm' : m ≤ 16) (hI : Ints w w.heap.size A len (finI LF)) (hlen : len ≤ 9223372036854775807) :
    Calls Tryz.prog 50 #[.slice A len cap] w fun e w' => e = .returned (.agg (setP (memB (finN LF)))) ∧ Below w.heap.size w w' := by
  obtain ⟨s, hs⟩ : ∃ s, w.heap.size = s := ⟨_, rfl⟩
  obtain ⟨W, hW⟩ : ∃ W, (w.alloc (.cells (setP fun _ => false) 59)).alloc (.cells (setP fun _ => false) 59) = W := ⟨_, rfl⟩
  have k0 : Blk W s 59 (setP fun _ => false) := by
    subst hW hs; exact (Blk.new w _ _).alloc _
  have k1 : Blk W (s + 1) 59 (setP fun _ => false) := by
    subst hW hs
    have := Blk.new (w.alloc (.cells (setP fun _ => false) 59)) 59 (setP fun _ => false)
    rw [World.size_alloc] at this
    exact this
  have b0 : Below s w W := by
    subst hW hs; exact ((Below.refl _ _).alloc (Nat.le_refl _) _).alloc (by simp) _
  have hL : LF.length = len := by rw [← hI.1, finI_len]
  rw [hs] at hI ⊢
  have HI := Lib.hid hI
  have HLN := Lib.hid hL
  rw [setP_nil] at hW
  have HW := Lib.hid hW
  have K0 := Lib.hid k0
  have K1 := Lib.hid k1
  have B0 := Lib.hid b0
  have hsw : s ≤ w.heap.size := by omega
  clear hW k0 k1 b0 hI hL
  go_enter Tryz.func50, Tryz.ntmps50
  go_upto_region 2 with (fail)
  rw [HW.out]
  go_wp2
  go_loopg [8] len (fun g vi wr => ∃ k : Nat, k ≤ len ∧ len ≤ k + g ∧ vi = .int .i64 k ∧ Blk wr (s + 1) 59 (setP (memB ((finN LF).take k))) ∧ Blk wr s 59 (setP fun _ => false) ∧ Below s w wr)
  case atStart => exact ⟨0, Nat.zero_le _, by omega, rfl, by
    rw [List.take_zero, show memB [] = fun _ => false from funext fun i => by simp [memB]]
    exact K1.out, K0.out, B0.out⟩
  case round =>
    obtain ⟨k, hk, hg, rfl, h1, h0, hB⟩ := hrel
    have H1 := Lib.hid h1
    have H0 := Lib.hid h0
    have HB := Lib.hid hB
    clear h1 h0 hB
    by_cases hlt : k < len
    · have hkL : k < LF.length := by rw [HLN.out]; exact hlt
      obtain ⟨b, off, rfl, hb1, hc⟩ := HI.out.at_ hlt
      obtain ⟨u, hu, hu1, hu2⟩ := finI_get (l := LF) (k := k) hkL
      have hck := (HB.out.cell (p := ⟨b, off + k, none⟩) hb1).trans hc
      rw [hu1] at hck
      have u0 : (0 : Int) ≤ (u : Int) := by omega
      have u1 : (u : Int) < 16 := by omega
      have hc1 := (H1.out.cell u).trans (setP_get (by omega))
      have hf1 := H1.out.frozen u
      have HU := Lib.hid hu2
      clear hc hu1 hu2
      go_wp2
      go_roundg (len - (k + 1))
      case measure => omega
      case rel =>
        refine ⟨k + 1, by omega, by omega, by go_num, ?_, H0.out.far (by show s ≠ s + 1; omega) _, HB.out.setCell (p := ⟨s + 1, u, none⟩) (by show s ≤ s + 1; omega) _⟩
        have := H1.out.put (a := u)
        rw [HU.out]
        rw [show (fun i => memB ((finN LF).take k) i || decide (i = u)) = memB ((finN LF).take k ++ [u]) from funext fun i => by simp [memB]] at this
        exact this
    · have hkm : k = len := by omega
      subst hkm
      have e0 : (finN LF).take k = finN LF := List.take_of_length_le (by have := HLN.out; simp [finN]; omega)
      have h1 := H1.out
      rw [e0] at h1
      obtain ⟨U, hU⟩ : ∃ U, setP (memB (finN LF)) = U := ⟨_, rfl⟩
      have hs1 : U.size = 16 := by rw [← hU, setP_size]
      have hs2 : U.all (·.oneCell') = true := by rw [← hU]; exact setP_one
      have hi := sset_info hs1
      have hold : (setP fun _ => false).size = U.size := by rw [hs1, setP_size]
      rw [hU] at h1
      have HU := Lib.hid hU
      clear hU e0
      go_wp2_with (first
        | (refine wpList_load_row rfl 59 (.tmp 3) rfl (s + 1) rfl _ U (0, 0) _ h1 Tryz.underlying59 rfl hi ?_)
        | (refine wpList_store_row rfl 59 (.tmp 2) (.tmp 15) rfl s U rfl rfl _ _ H0.out hi hold hs2 ?_))
      exact bodyPost_ret (results_cell_row Tryz.results50 _ _ s 59 U (0, 0) _ rfl (setRow_heap wr _ _ U _ _ H0.out) Tryz.underlying59 rfl hi) rfl ⟨by rw [HU.out], below_setRow HB.out (Nat.le_refl _) U⟩

end Go.Proofs.YtajoimopahibcaaGreat



/- The reading side's least ideal with some elements: three loops, till nothing is put in. -/
namespace Go.Proofs.YtajoimopahibcaaGreat
open Go.RowKit
set_option maxRecDepth 100000

section
variable {m e : Nat} {S P : Nat → Nat} {c : Nat → Bool}
theorem clTo_zero {a : Nat} : ClTo m S P c a 0 := fun _ h => absurd h (by omega)
theorem clTo_succ {a k : Nat} (h : ClTo m S P c a k) (h1 : ClAt m S P c a k) : ClTo m S P c a (k + 1) := fun y hy => by
  rcases Nat.lt_succ_iff_lt_or_eq.1 hy with h2 | rfl
  · exact h y h2
  · exact h1
theorem clAll_zero : ClAll m S P c 0 := fun _ h => absurd h (by omega)
theorem clAll_succ {k : Nat} (h : ClAll m S P c k) (h1 : c k = true → ClTo m S P c k m) : ClAll m S P c (k + 1) := fun a ha hc => by
  rcases Nat.lt_succ_iff_lt_or_eq.1 ha with h2 | rfl
  · exact h a h2 hc
  · exact h1 hc
theorem gen_fix {p : Nat → Bool} (h1 : ∀ i, p i = true → c i = true) (h2 : ∀ i, c i = true → genB m S P p i = true) (z : c 0 = true) (h : ClAll m S P c m) : c = genB m S P p :=
  gen_closed h1 h2 z (fun i j hi hj => ((h i (gen_lt (h2 i hi)) hi) j (gen_lt (h2 j hj))).2 hj) (fun i j hi hj => ((h i (gen_lt (h2 i hi)) hi) j hj).1)
end

/-- The state of the loops: the set, what has grown, what is closed. -/
structure LpIn (m : Nat) (S P : Nat → Nat) (G c c' : Nat → Bool) (b : Bool) (k : Nat) : Prop where
  ok : PassOk G c c' b
  cl : b = false → ClAll m S P c k

set_option maxHeartbeats 16000000 in
theorem l4Closed_any (p : Nat → Bool) (m e b1 o1 la ca b2 o2 lb cb : Nat) (S P : Nat → Nat) (w : World) (hr : RingAt w m e b1 o1 la ca b2 o2 lb cb S P) (R : RTab m S P e) (hp : ∀ i, p i = true → i < m) :
    Calls Tryz.prog 49 #[.agg #[.int .i64 m, .int .i64 e, .slice (some ⟨b1, o1, none⟩) la ca, .slice (some ⟨b2, o2, none⟩) lb cb], .agg (setP p)] w fun e' w' => e' = .returned (.agg (setP (genB m S P p))) ∧ Below w.heap.size w w' := by
  obtain ⟨s, hs⟩ : ∃ s, w.heap.size = s := ⟨_, rfl⟩
  obtain ⟨W, hW⟩ : ∃ W, ((w.alloc (.cells #[.int .i64 m, .int .i64 e, .slice (some ⟨b1, o1, none⟩) la ca, .slice (some ⟨b2, o2, none⟩) lb cb] 25)).alloc (.cells (setP p) 59)).alloc (.cells (setP fun _ => false) 59) = W := ⟨_, rfl⟩
  have k0 : Blk W s 25 #[.int .i64 m, .int .i64 e, .slice (some ⟨b1, o1, none⟩) la ca, .slice (some ⟨b2, o2, none⟩) lb cb] := by
    subst hW hs; exact ((Blk.new w _ _).alloc _).alloc _
  have k1 : Blk W (s + 1) 59 (setP p) := by
    subst hW hs
    have := (Blk.new (w.alloc (.cells #[.int .i64 m, .int .i64 e, .slice (some ⟨b1, o1, none⟩) la ca, .slice (some ⟨b2, o2, none⟩) lb cb] 25)) 59 (setP p)).alloc (.cells (setP fun _ => false) 59)
    rw [World.size_alloc] at this
    exact this
  have k2 : Blk W (s + 2) 59 (setP fun _ => false) := by
    subst hW hs
    have := Blk.new ((w.alloc (.cells #[.int .i64 m, .int .i64 e, .slice (some ⟨b1, o1, none⟩) la ca, .slice (some ⟨b2, o2, none⟩) lb cb] 25)).alloc (.cells (setP p) 59)) 59 (setP fun _ => false)
    rw [World.size_alloc, World.size_alloc] at this
    exact this
  have b0 : Below s w W := by
    subst hW hs; exact (((Below.refl _ _).alloc (Nat.le_refl _) _).alloc (by simp) _).alloc (by simp; omega) _
  rw [hs]
  have hsw : s ≤ w.heap.size := by omega
  have hm' := hr.hm'
  have hm := hr.hm
  have HR0 := Lib.hid hr
  rw [setP_nil] at hW
  have HW := Lib.hid hW
  have K0 := Lib.hid k0
  have K1 := Lib.hid k1
  have K2 := Lib.hid k2
  have B0 := Lib.hid b0
  have HS := Lib.hid hs
  obtain ⟨G, hG⟩ : ∃ G, genB m S P p = G := ⟨_, rfl⟩
  have hGi : Idl m S P G := by rw [← hG]; exact R.gen_idl
  have hGp : ∀ i, p i = true → G i = true := fun i hi => by rw [← hG]; exact gen_ge hp hi
  have HG := Lib.hid hG
  have HGI := Lib.hid hGi
  have HGP := Lib.hid hGp
  clear hW k0 k1 k2 b0 hr hG hGi hGp
  go_enter Tryz.func49, Tryz.ntmps49
  go_wp2_with (fail)
  rw [HW.out]
  refine (sput_any (s + 1) 0 p W K1.out (by decide)).mono ?_
  rintro e1 w1 ⟨rfl, rfl⟩
  have K1 := Lib.hid (K1.out.put (a := 0))
  have K0 := Lib.hid (K0.out.far (p := ⟨s + 1, 0, none⟩) (by show s ≠ s + 1; omega) (.bool true))
  have K2 := Lib.hid (K2.out.far (p := ⟨s + 1, 0, none⟩) (by show s + 2 ≠ s + 1; omega) (.bool true))
  have B1 := Lib.hid (B0.out.setCell (p := ⟨s + 1, 0, none⟩) (by show s ≤ s + 1; omega) (.bool true))
  obtain ⟨W1, hW1⟩ : ∃ W1, W.setCell ⟨s + 1, 0, none⟩ (.bool true) = W1 := ⟨_, rfl⟩
  rw [hW1] at K0 K1 K2 B1 ⊢
  clear hW1 B0
  go_wp2
  go_loopg [5] 17 (fun g vb wr => ∃ (b : Bool) (c : Nat → Bool), vb = .bool b ∧ (∀ i, p i = true → c i = true) ∧ c 0 = true ∧ (∀ i, c i = true → G i = true) ∧ (b = false → ClAll m S P c m) ∧ (16 - (pl c).length) + b.toNat ≤ g ∧ Blk wr s 25 #[.int .i64 m, .int .i64 e, .slice (some ⟨b1, o1, none⟩) la ca, .slice (some ⟨b2, o2, none⟩) lb cb] ∧ Blk wr (s + 1) 59 (setP c) ∧ Blk wr (s + 2) 59 (setP fun _ => false) ∧ Below s w wr)
  case atStart =>
    refine ⟨true, _, rfl, fun i hi => by rw [hi]; rfl, by simp, fun i hi => ?_, fun e => (by cases e), by simp only [Bool.toNat_true]; omega, K0.out, K1.out, K2.out, B1.out⟩
    rw [Bool.or_eq_true, decide_eq_true_iff] at hi
    exact hi.elim (HGP.out i) (fun e => e ▸ HGI.out.z)
  case round =>
    obtain ⟨b, c, rfl, hpc, hc0, hcG, hcl, hfu, h0, h1, h2, hB⟩ := hrel
    have H0 := Lib.hid h0
    have H1 := Lib.hid h1
    have H2 := Lib.hid h2
    have HB := Lib.hid hB
    have HCG := Lib.hid hcG
    have HPC := Lib.hid hpc
    have HC0 := Lib.hid hc0
    obtain ⟨d0, d1, d2, d3⟩ := blk4 h0
    clear h0 h1 h2 hB hcG hpc hc0
    cases b
    · have HCL := Lib.hid (hcl rfl)
      clear hcl
      obtain ⟨U, hU⟩ : ∃ U, setP c = U := ⟨_, rfl⟩
      have hs1 : U.size = 16 := by rw [← hU, setP_size]
      have hs2 : U.all (·.oneCell') = true := by rw [← hU]; exact setP_one
      have hi := sset_info hs1
      have hold : (setP fun _ => false).size = U.size := by rw [hs1, setP_size]
      have h1 := H1.out
      rw [hU] at h1
      have HU := Lib.hid (show U = setP G by rw [← hU, ← HG.out, gen_fix HPC.out (by rw [HG.out]; exact HCG.out) HC0.out HCL.out])
      clear hU
      go_wp2_with (first
        | (refine wpList_load_row rfl 59 (.tmp 3) rfl (s + 1) rfl _ U (0, 0) _ h1 Tryz.underlying59 rfl hi ?_)
        | (refine wpList_store_row rfl 59 (.tmp 4) (.tmp 43) rfl (s + 2) U rfl rfl _ _ H2.out hi hold hs2 ?_))
      exact bodyPost_ret (results_cell_row Tryz.results49 _ _ (s + 2) 59 U (0, 0) _ rfl (setRow_heap wr _ _ U _ _ H2.out) Tryz.underlying59 rfl hi) rfl ⟨by rw [HU.out, HG.out], below_setRow HB.out (by omega) U⟩
    · clear hcl
      simp only [Bool.toNat_true] at hfu
      go_wp2
      go_loopg [5, 12] m (fun g2 vb vi wr => ∃ (b : Bool) (c' : Nat → Bool) (k : Nat), vb = .bool b ∧ vi = .int .i64 k ∧ k ≤ m ∧ m ≤ k + g2 ∧ LpIn m S P G c c' b k ∧ Blk wr s 25 #[.int .i64 m, .int .i64 e, .slice (some ⟨b1, o1, none⟩) la ca, .slice (some ⟨b2, o2, none⟩) lb cb] ∧ Blk wr (s + 1) 59 (setP c') ∧ Blk wr (s + 2) 59 (setP fun _ => false) ∧ Below s w wr)
      case atStart => exact ⟨false, c, 0, rfl, rfl, Nat.zero_le _, by omega, ⟨PassOk.start HCG.out, fun _ => clAll_zero⟩, H0.out, H1.out, H2.out, HB.out⟩
      case round =>
        obtain ⟨b, c', k, rfl, rfl, hk, hg, hIn, h0, h1, h2, hB⟩ := hrel
        have H0 := Lib.hid h0
        have H1 := Lib.hid h1
        have H2 := Lib.hid h2
        have HB := Lib.hid hB
        have HOK := Lib.hid hIn.ok
        have HCL := Lib.hid hIn.cl
        clear d0 d1 d2 d3 hIn
        obtain ⟨d0, d1, d2, d3⟩ := blk4 h0
        clear h0 h1 h2 hB
        by_cases hlt : k < m
        · have k0 : (0 : Int) ≤ (k : Int) := by omega
          have k16 : (k : Int) < 16 := by omega
          cases hck : c' k
          · have hc1 := (H1.out.cell k).trans (setP_get (by omega))
            have hf1 := H1.out.frozen k
            rw [hck] at hc1
            have HCK := Lib.hid hck
            clear hck
            go_wp2
            go_roundg (m - (k + 1))
            case measure => omega
            case rel =>
              refine ⟨b, c', k + 1, rfl, by go_num, by omega, by omega, ⟨HOK.out, fun e => clAll_succ (HCL.out e) fun hc => ?_⟩, H0.out, H1.out, H2.out, HB.out⟩
              have := HOK.out.same e
              rw [← this, HCK.out] at hc
              cases hc
          · have hc1 := (H1.out.cell k).trans (setP_get (by omega))
            have hf1 := H1.out.frozen k
            rw [hck] at hc1
            have HCK := Lib.hid hck
            clear hck
            go_wp2
            go_loopg [5, 21] m (fun g3 vb vi wr => ∃ (b : Bool) (c' : Nat → Bool) (y : Nat), vb = .bool b ∧ vi = .int .i64 y ∧ y ≤ m ∧ m ≤ y + g3 ∧ PassOk G c c' b ∧ c' k = true ∧ (b = false → ClAll m S P c k ∧ ClTo m S P c k y) ∧ Blk wr s 25 #[.int .i64 m, .int .i64 e, .slice (some ⟨b1, o1, none⟩) la ca, .slice (some ⟨b2, o2, none⟩) lb cb] ∧ Blk wr (s + 1) 59 (setP c') ∧ Blk wr (s + 2) 59 (setP fun _ => false) ∧ Below s w wr)
            case atStart => exact ⟨b, c', 0, rfl, rfl, Nat.zero_le _, by omega, HOK.out, HCK.out, fun e => ⟨HCL.out e, clTo_zero⟩, H0.out, H1.out, H2.out, HB.out⟩
            case round =>
              obtain ⟨b', c2, y, rfl, rfl, hy, hg3, hok, hck2, hcl2, h0, h1, h2, hB⟩ := hrel
              clear hc1 hf1 d0 d1 d2 d3
              have J0 := Lib.hid h0
              have J1 := Lib.hid h1
              have J2 := Lib.hid h2
              have JB := Lib.hid hB
              have JOK := Lib.hid hok
              have JCK := Lib.hid hck2
              have JCL := Lib.hid hcl2
              have RV := Lib.hid (HR0.out.next (HS.out ▸ hB))
              have hsV := hB.size
              obtain ⟨d0, d1, d2, d3⟩ := blk4 h0
              clear h0 h1 h2 hB hok hck2 hcl2
              by_cases hlt2 : y < m
              · have y0 : (0 : Int) ≤ (y : Int) := by omega
                have y16 : (y : Int) < 16 := by omega
                have hPl : P (k * m + y) < m := R.pc hlt hlt2
                have hSl : S (k * m + y) < m := R.sc hlt hlt2
                have hGP : G (P (k * m + y)) = true := HGI.out.t k y (JOK.out.le k JCK.out) hlt2
                have HGPP := Lib.hid hGP
                clear hGP
                go_wp2_with (fail)
                refine (l1Mul_any k y m e b1 o1 la ca b2 o2 lb cb S P _ RV.out hlt hlt2).mono ?_
                rintro e3 w3 ⟨rfl, hb3⟩
                have J0 := Lib.hid (J0.out.next hb3)
                have J1 := Lib.hid (J1.out.next hb3)
                have J2 := Lib.hid (J2.out.next hb3)
                have JB := Lib.hid (JB.out.trans (hb3.mono (show s ≤ _ by omega)))
                have s3 := hb3.size
                clear hb3 d0 d1 d2 d3
                go_wp2_with (fail)
                refine (sput_any (s + 1) (P (k * m + y)) c2 w3 J1.out (by omega)).mono ?_
                rintro e4 w4 ⟨rfl, rfl⟩
                have I0 := J0.out.far (p := ⟨s + 1, P (k * m + y), none⟩) (by show s ≠ s + 1; omega) (.bool true)
                have I1 := J1.out.put (a := P (k * m + y))
                have I2 := J2.out.far (p := ⟨s + 1, P (k * m + y), none⟩) (by show s + 2 ≠ s + 1; omega) (.bool true)
                have IB := JB.out.setCell (p := ⟨s + 1, P (k * m + y), none⟩) (by show s ≤ s + 1; omega) (.bool true)
                have hs4 : w3.heap.size ≤ (w3.setCell ⟨s + 1, P (k * m + y), none⟩ (.bool true)).heap.size := by simp
                obtain ⟨w4, hw4⟩ : ∃ w4, w3.setCell ⟨s + 1, P (k * m + y), none⟩ (.bool true) = w4 := ⟨_, rfl⟩
                rw [hw4] at I0 I1 I2 IB hs4 ⊢
                cases hP : c2 (P (k * m + y))
                · have I0 := Lib.hid I0
                  have I1 := Lib.hid I1
                  have I2 := Lib.hid I2
                  have IB := Lib.hid IB
                  have HP := Lib.hid hP
                  clear hP hw4
                  rw [show (!false) = true from rfl]
                  go_wp2
                  go_roundg (m - (y + 1))
                  case measure => omega
                  case rel => exact ⟨true, _, y + 1, rfl, by go_num, by omega, by omega, JOK.out.add HGPP.out (by omega) HP.out, by rw [JCK.out]; rfl, fun e => (by cases e), I0.out, I1.out, I2.out, IB.out⟩
                · rw [add_same hP] at I1
                  have HP := Lib.hid hP
                  have hcy := (I1.cell y).trans (setP_get (by omega))
                  have hfy := I1.frozen y
                  have I1 := Lib.hid I1
                  have I2 := Lib.hid I2
                  have IB := Lib.hid IB
                  obtain ⟨d0, d1, d2, d3⟩ := blk4 I0
                  have I0 := Lib.hid I0
                  rw [show (!true) = false from rfl]
                  clear hP hw4
                  cases hcy2 : c2 y
                  · rw [hcy2] at hcy
                    have HY := Lib.hid hcy2
                    clear hcy2
                    go_wp2
                    go_roundg (m - (y + 1))
                    case measure => omega
                    case rel =>
                      refine ⟨b', c2, y + 1, rfl, by go_num, by omega, by omega, JOK.out, JCK.out, fun e => ⟨(JCL.out e).1, clTo_succ (JCL.out e).2 ?_⟩, I0.out, I1.out, I2.out, IB.out⟩
                      have := JOK.out.same e
                      rw [← this]
                      exact ⟨HP.out, fun h => by rw [HY.out] at h; cases h⟩
                  · rw [hcy2] at hcy
                    have HY := Lib.hid hcy2
                    have RV4 := Lib.hid (HR0.out.next (HS.out ▸ IB.out))
                    have HGS := Lib.hid (HGI.out.s k y (JOK.out.le k JCK.out) (JOK.out.le y hcy2))
                    clear hcy2
                    go_wp2_with (fail)
                    refine (l1Add_any k y m e b1 o1 la ca b2 o2 lb cb S P _ RV4.out hlt hlt2).mono ?_
                    rintro e5 w5 ⟨rfl, hb5⟩
                    have L0 := Lib.hid (I0.out.next hb5)
                    have L1 := Lib.hid (I1.out.next hb5)
                    have L2 := Lib.hid (I2.out.next hb5)
                    have LB := Lib.hid (IB.out.trans (hb5.mono (show s ≤ _ by omega)))
                    have s5 := hb5.size
                    clear hb5 d0 d1 d2 d3 hcy hfy
                    go_wp2_with (fail)
                    refine (sput_any (s + 1) (S (k * m + y)) c2 w5 L1.out (by omega)).mono ?_
                    rintro e6 w6 ⟨rfl, rfl⟩
                    have M0 := L0.out.far (p := ⟨s + 1, S (k * m + y), none⟩) (by show s ≠ s + 1; omega) (.bool true)
                    have M1 := L1.out.put (a := S (k * m + y))
                    have M2 := L2.out.far (p := ⟨s + 1, S (k * m + y), none⟩) (by show s + 2 ≠ s + 1; omega) (.bool true)
                    have MB := LB.out.setCell (p := ⟨s + 1, S (k * m + y), none⟩) (by show s ≤ s + 1; omega) (.bool true)
                    obtain ⟨w6, hw6⟩ : ∃ w6, w5.setCell ⟨s + 1, S (k * m + y), none⟩ (.bool true) = w6 := ⟨_, rfl⟩
                    rw [hw6] at M0 M1 M2 MB ⊢
                    have M0 := Lib.hid M0
                    have M2 := Lib.hid M2
                    have MB := Lib.hid MB
                    cases hS2 : c2 (S (k * m + y))
                    · have M1 := Lib.hid M1
                      have HS2 := Lib.hid hS2
                      clear hS2 hw6
                      rw [show (!false) = true from rfl]
                      go_wp2
                      go_roundg (m - (y + 1))
                      case measure => omega
                      case rel => exact ⟨true, _, y + 1, rfl, by go_num, by omega, by omega, JOK.out.add HGS.out (by omega) HS2.out, by rw [JCK.out]; rfl, fun e => (by cases e), M0.out, M1.out, M2.out, MB.out⟩
                    · rw [add_same hS2] at M1
                      have M1 := Lib.hid M1
                      have HS2 := Lib.hid hS2
                      clear hS2 hw6
                      rw [show (!true) = false from rfl]
                      go_wp2
                      go_roundg (m - (y + 1))
                      case measure => omega
                      case rel =>
                        refine ⟨b', c2, y + 1, rfl, by go_num, by omega, by omega, JOK.out, JCK.out, fun e => ⟨(JCL.out e).1, clTo_succ (JCL.out e).2 ?_⟩, M0.out, M1.out, M2.out, MB.out⟩
                        have := JOK.out.same e
                        rw [← this]
                        exact ⟨HP.out, fun _ => HS2.out⟩
              · have hym : y = m := by omega
                subst hym
                go_wp2
                go_roundg (y - (k + 1))
                case measure => omega
                case rel => exact ⟨b', c2, k + 1, rfl, by go_num, by omega, by omega, ⟨JOK.out, fun e => clAll_succ (JCL.out e).1 fun _ => (JCL.out e).2⟩, J0.out, J1.out, J2.out, JB.out⟩
        · have hkm : k = m := by omega
          subst hkm
          go_wp2
          have hl1 := pl_len (c := c')
          have hl0 := pl_len (c := c)
          have hdec : 16 - (pl c').length + b.toNat ≤ 16 - (pl c).length := by
            cases b
            · rw [HOK.out.same rfl]; simp
            · have := HOK.out.len
              simp only [Bool.toNat_true]
              omega
          have HD := Lib.hid hdec
          go_roundg (16 - (pl c').length + b.toNat)
          case measure => omega
          case rel => exact ⟨b, c', rfl, fun i hi => HOK.out.mono i (HPC.out i hi), HOK.out.mono 0 HC0.out, HOK.out.le, fun e => by rw [HOK.out.same e]; exact HCL.out e, Nat.le_refl _, H0.out, H1.out, H2.out, HB.out⟩

end Go.Proofs.YtajoimopahibcaaGreat



/- IdealOf and IsIdeal of the reading side; IsIdeal of the program; the set of an ideal. -/
namespace Go.Proofs.YtajoimopahibcaaGreat
open Go.RowKit Go.Shelf
set_option maxRecDepth 100000

theorem eqL_comm {xs ys : List Int} : eqL xs ys = eqL ys xs := by
  unfold eqL
  rw [Bool.eq_iff_iff, decide_eq_true_iff, decide_eq_true_iff]
  exact eq_comm
theorem l3SetP_any (p : Nat → Bool) (m : Nat) (w : World) (hm' : m ≤ 16) (hp : ∀ i, p i = true → i < m) :
    Calls Tryz.prog 48 #[.agg (setP p)] w fun e' w' => ∃ v, e' = .returned v ∧ SliceOut w.heap.size w' v (lstP m p) ∧ Below w.heap.size w w' := by
  have := l3Set_any (pl p) (setP p) w setP_A.symm
  rw [selTo_congr (q := p) (fun a ha => pl_mem ha) 16 (Nat.le_refl _), sel_16 hm' (fun i hi => by
    cases e : p i
    · rfl
    · exact absurd (hp i e) (by omega))] at this
  exact this
theorem hi_elB {n o : Int} {X Y L : List Int} (h : validB n o X Y = true) : elB (hiOf n) L = allB n L := by rw [hi_valid h]; exact elB_allB
theorem ide_noE {n o : Int} {X Y L : List Int} (h : elB (hiOf n) L = false) : ideB n o X Y L = false := by
  cases hv : validB n o X Y
  · exact ide_noV hv
  · exact ide_noA (by rw [← hi_elB hv]; exact h)

def siMk (i : Nat) : Bool := i == 4
structure SiPhi (D : Nat) (Z : List Int) (i : Nat) (v : Value) (w : World) : Prop where
  p4 : i = 4 → SliceOut D w v Z
structure SiSh (i : Nat) (v : Value) : Prop where
  p4 : i = 4 → ∃ A l c, v = .slice A l c
theorem SiPhi_stable {D : Nat} {Z : List Int} (i : Nat) (v : Value) (w w' : World) (h : SiPhi D Z i v w) (hb : Below w.heap.size w w') : SiPhi D Z i v w' := ⟨fun e => (h.p4 e).next hb⟩
theorem SiSh_of {D : Nat} {Z : List Int} (i : Nat) (v : Value) (w : World) (h : SiPhi D Z i v w) : SiSh i v := ⟨fun e => by obtain ⟨A, l, c, h1, _⟩ := h.p4 e; exact ⟨A, l, c, h1⟩⟩
theorem SiSh_zero (i : Nat) : SiSh i (.slice none 0 0) := ⟨fun _ => ⟨none, 0, 0, rfl⟩⟩

set_option maxHeartbeats 8000000 in
theorem sidealOf_any (n o : Int) (A B C : Option Addr) (la ca lb cb len cap : Nat) (X Y L : List Int) (w : World) (hX : Ints w w.heap.size A la X) (hY : Ints w w.heap.size B lb Y) (hL : Ints w w.heap.size C len L) (hla : la ≤ 9223372036854775807) (hlb : lb ≤ 9223372036854775807) (hlen : len ≤ 9223372036854775807) (hca : la ≤ ca) (hcb : lb ≤ cb) :
    Calls Tryz.prog 95 #[.agg #[.int .i64 n, .int .i64 o, .slice A la ca, .slice B lb cb], .slice C len cap] w fun e' w' => ∃ v, e' = .returned (.tuple #[v, .bool (ideB n o X Y L)]) ∧ SliceOut w.heap.size w' v (ideL n o X Y L) ∧ Below w.heap.size w w' := by
  have HH := Lib.hid (show wrap64 (n - 1) = hiOf n from rfl)
  obtain ⟨W, hW⟩ : ∃ W, w.alloc (.cells #[.int .i64 n, .int .i64 o, .slice A la ca, .slice B lb cb] 25) = W := ⟨_, rfl⟩
  have k0 : Blk W w.heap.size 25 #[.int .i64 n, .int .i64 o, .slice A la ca, .slice B lb cb] := by
    subst hW; exact Blk.new w _ _
  have b0 : Below w.heap.size w W := by
    subst hW; exact (Below.refl _ _).alloc (Nat.le_refl _) _
  have HX := Lib.hid (hX.next b0)
  have HY := Lib.hid (hY.next b0)
  have HL := Lib.hid (hL.next b0)
  have HL0 := Lib.hid hL
  have B0 := Lib.hid b0
  have HW := Lib.hid hW
  have K0 := Lib.hid k0
  have hs0 := k0.lt
  obtain ⟨c0, c1, c2, c3⟩ := blk4 k0
  clear k0 b0 hW hL
  cases he : elB (hiOf n) L
  · have hz := Lib.hid (ide_noE (o := o) (X := X) (Y := Y) he)
    have HE := Lib.hid he
    clear hX hY he
    go_enter Tryz.func95, Tryz.ntmps95
    go_wp2_with (fail)
    rw [HW.out]
    go_wp2_with (go_at_call 122; ((with_reducible refine (l1Elements_any _ _ _ _ _ L _ _ HH.out HL.out hlen).mono ?_); rw [HE.out]; rintro e1 w1 ⟨rfl, rfl⟩))
    go_ret2
    exact ⟨_, by rw [hz.out]; rfl, by rw [ideL_no hz.out]; exact SliceOut.of_row (n := 0) (own_lit_K [] B0.out.size (by unfold maxLen; simp)) rfl (by omega), B0.out.alloc B0.out.size _⟩
  · cases hv : validB n o X Y
    · have hz := Lib.hid (ide_noV (L := L) hv)
      have HE := Lib.hid he
      have HV := Lib.hid hv
      clear hX hY he hv
      go_enter Tryz.func95, Tryz.ntmps95
      go_wp2_with (fail)
      rw [HW.out]
      go_wp2_with (first
        | (go_at_call 122; ((with_reducible refine (l1Elements_any _ _ _ _ _ L _ _ HH.out HL.out hlen).mono ?_); rw [HE.out]; rintro e1 w1 ⟨rfl, rfl⟩))
        | (go_at_call 115; ((with_reducible refine (specValid_any _ _ _ _ _ _ _ _ X Y _ HX.out HY.out hla hlb hca hcb).mono ?_); rw [HV.out]; rintro e2 w2 ⟨rfl, hb2⟩; have B1 := Lib.hid (below_step B0.out hb2); clear hb2)))
      go_ret2
      exact ⟨_, by rw [hz.out]; rfl, by rw [ideL_no hz.out]; exact SliceOut.of_row (n := 0) (own_lit_K [] B1.out.size (by unfold maxLen; simp)) rfl (by omega), B1.out.alloc B1.out.size _⟩
    · have ha : allB n L = true := by rw [← hi_elB hv]; exact he
      have hz := Lib.hid (ide_yes hv ha)
      obtain ⟨m, e, b1, o1, b2, o2, rfl, rfl, rfl, rfl, hr, _, _, _, _, _⟩ := valid_data hv hX hY hca hcb
      have R := rtab_of_valid hv
      obtain ⟨LF, rfl⟩ := finOf (all_iff.1 ha)
      have hm' := hr.hm'
      have HR0 := Lib.hid hr
      have HE := Lib.hid he
      have HV := Lib.hid hv
      have hZ := Lib.hid (show ideL m e X Y (finI LF) = lstP m (genB m (tabOf X) (tabOf Y) (memB (finN LF))) by rw [ideL_yes hz.out]; unfold genL; rw [Int.toNat_natCast, setL_fin])
      have hpl : ∀ i, memB (finN LF) i = true → i < m := fun i hi => by
        have := memB_iff.1 hi
        simp only [finN, List.mem_map] at this
        obtain ⟨z, _, rfl⟩ := this
        exact z.2
      clear hX hY hr ha he hv
      go_enter Tryz.func95, Tryz.ntmps95
      go_wp2_with (fail)
      rw [HW.out]
      go_wp2_with (first
        | (go_at_call 122; ((with_reducible refine (l1Elements_any _ _ _ _ _ (finI LF) _ _ HH.out HL.out hlen).mono ?_); rw [HE.out]; rintro e1 w1 ⟨rfl, rfl⟩))
        | (go_at_call 115; ((with_reducible refine (specValid_any _ _ _ _ _ _ _ _ X Y _ HX.out HY.out hla hlb hca hcb).mono ?_); rw [HV.out]; rintro e2 w2 ⟨rfl, hb2⟩)))
      have B2 := Lib.hid (below_step B0.out hb2)
      have K2 := Lib.hid (K0.out.next hb2)
      have s2 := hb2.size
      clear hb2 c0 c1 c2 c3
      refine wp_region_makersE 6 siMk (SiPhi w.heap.size (lstP m (genB m (tabOf X) (tabOf Y) (memB (finN LF))))) SiSh (fun _ => .slice none 0 0) probe (by kernel_rfl) (by kernel_rfl) SiPhi_stable (fun i v x _ => SiSh_of i v x) (fun i _ => SiSh_zero i) ?_
      intro V hV vs hvs
      obtain ⟨A4, l4, c4, e4⟩ := (hvs 4 rfl).p4 rfl
      have cW : ∃ x, extC V x := ⟨V, extC_of (Below.refl _ _)⟩
      have KX := Lib.hid (show ∀ x, extC V x → Below w.heap.size w x from fun x ⟨u, hu⟩ => by rw [hu]; exact below_step (below_step B2.out hV) (ext_below V u))
      have KU := Lib.hid (show ∀ u, Below w.heap.size w (ext V u) from fun u => below_step (below_step B2.out hV) (ext_below V u))
      obtain ⟨f0, f1, f2, f3⟩ := blk4 (K2.out.next hV)
      clear hV
      simp only [List.take_succ_cons, List.take_zero, List.drop_succ_cons, List.drop_zero]
      refine wpV_quietE cW 4 0 _ _ (by decide) (by decide) ?_
      simp only [List.take_succ_cons, List.take_zero, List.drop_succ_cons, List.drop_zero]
      repeat (go_big_quiet_step ((first
        | (go_at_call 50; exact calls_ext (l4Of_any m C len cap LF _ hm' (HL0.out.next (KU.out _)) hlen))
        | (go_at_call 49; exact calls_ext (l4Closed_any _ m e b1 o1 la ca b2 o2 lb cb (tabOf X) (tabOf Y) _ (HR0.out.next (KU.out _)) R hpl)))))
      refine wpQuiet_nil ?_
      refine wpV_make_E rfl rfl (fun x hx hd => ?_) ?_
      · unfold makesAtE
        go_simp
        refine ⟨rfl, (l3SetP_any _ m x hm' (fun _ h => gen_lt h)).mono ?_⟩
        rintro _ x' ⟨v, rfl, ho, hb⟩
        exact ⟨_, rfl, hb, ⟨fun _ => ho.down (KX.out x hx).size⟩, fun b hbb => (by cases hbb)⟩
      rw [e4]
      go_simp
      refine wpV_quietE cW 1 _ _ _ (by decide) (by decide) ?_
      simp only [List.take_succ_cons, List.take_zero, List.drop_succ_cons, List.drop_zero]
      repeat (go_big_quiet_step (fail))
      refine wpQuiet_nil ?_
      refine wpV_nilE ?_
      intro w3 hb3 hf _
      have h4 := (hf 4 (by decide) rfl).p4 rfl
      rw [e4] at h4
      have H4 := Lib.hid h4
      have BB := Lib.hid (below_step B2.out hb3)
      clear hb3 hf h4
      go_wp2
      go_ret2
      exact ⟨.slice A4 l4 c4, by rw [hz.out]; rfl, by rw [hZ.out]; exact H4.out, BB.out⟩

theorem isId_no {n o : Int} {X Y L : List Int} (h : ideB n o X Y L = false) : isIdB n o X Y L = false := by unfold isIdB; rw [h]; rfl
theorem isId_eq {n o : Int} {X Y L : List Int} (h : ideB n o X Y L = true) : isIdB n o X Y L = eqL L (ideL n o X Y L) := by unfold isIdB; rw [h]; rfl

set_option maxHeartbeats 4000000 in
theorem sisId_any (n o : Int) (A B C : Option Addr) (la ca lb cb len cap : Nat) (X Y L : List Int) (w : World) (hX : Ints w w.heap.size A la X) (hY : Ints w w.heap.size B lb Y) (hL : Ints w w.heap.size C len L) (hla : la ≤ 9223372036854775807) (hlb : lb ≤ 9223372036854775807) (hlen : len ≤ 9223372036854775807) (hca : la ≤ ca) (hcb : lb ≤ cb) :
    Calls Tryz.prog 44 #[.agg #[.int .i64 n, .int .i64 o, .slice A la ca, .slice B lb cb], .slice C len cap] w fun e' w' => e' = .returned (.bool (isIdB n o X Y L)) ∧ Below w.heap.size w w' := by
  obtain ⟨W, hW⟩ : ∃ W, w.alloc (.cells #[.int .i64 n, .int .i64 o, .slice A la ca, .slice B lb cb] 25) = W := ⟨_, rfl⟩
  have b0 : Below w.heap.size w W := by
    subst hW; exact (Below.refl _ _).alloc (Nat.le_refl _) _
  have k0 : Blk W w.heap.size 25 #[.int .i64 n, .int .i64 o, .slice A la ca, .slice B lb cb] := by
    subst hW; exact Blk.new w _ _
  obtain ⟨c0, c1, c2, c3⟩ := blk4 k0
  have HX := Lib.hid (hX.next b0)
  have HY := Lib.hid (hY.next b0)
  have HL := Lib.hid (hL.next b0)
  have B0 := Lib.hid b0
  have HW := Lib.hid hW
  have hs0 := b0.size
  clear hX hY hL b0 hW k0
  cases hd : ideB n o X Y L
  · have hz := Lib.hid (isId_no hd)
    have HD := Lib.hid hd
    clear hd
    go_enter Tryz.func44, Tryz.ntmps44
    go_wp2_with (fail)
    rw [HW.out]
    go_wp2_with (go_at_call 95; refine (sidealOf_any n o A B C la ca lb cb len cap X Y L W HX.out HY.out HL.out hla hlb hlen hca hcb).mono ?_; rw [HD.out]; rintro e1 w1 ⟨v1, rfl, ⟨A1, l1, q1, rfl, ho1, hc1, hl1⟩, hb1⟩)
    go_ret
    exact ⟨ret_bool hz.out.symm, below_step B0.out hb1⟩
  · have hz := Lib.hid (isId_eq hd)
    have HD := Lib.hid hd
    clear hd
    go_enter Tryz.func44, Tryz.ntmps44
    go_wp2_with (fail)
    rw [HW.out]
    go_wp2_with (first
      | (go_at_call 95; refine (sidealOf_any n o A B C la ca lb cb len cap X Y L W HX.out HY.out HL.out hla hlb hlen hca hcb).mono ?_; rw [HD.out]; rintro e1 w1 ⟨v1, rfl, ⟨A1, l1, q1, rfl, ho1, hc1, hl1⟩, hb1⟩; have B1 := Lib.hid (below_step B0.out hb1); have I1 := Lib.hid ho1.ints; have HL1 := Lib.hid (HL.out.next hb1); clear hb1 ho1)
      | (go_at_call 96; refine (l1Same_any A1 C l1 len q1 cap _ L w1 _ _ I1.out HL1.out (by omega) hlen).mono ?_; rintro e2 w2 ⟨rfl, hb2⟩))
    go_ret
    exact ⟨ret_bool (by rw [hz.out, eqL_comm]), below_step B1.out hb2⟩

set_option maxHeartbeats 4000000 in
theorem isId_any (n o : Int) (A B C : Option Addr) (la ca lb cb len cap : Nat) (X Y L : List Int) (w : World) (hX : Ints w w.heap.size A la X) (hY : Ints w w.heap.size B lb Y) (hL : Ints w w.heap.size C len L) (hla : la ≤ 9223372036854775807) (hlb : lb ≤ 9223372036854775807) (hlen : len ≤ 9223372036854775807) (hca : la ≤ ca) (hcb : lb ≤ cb) :
    Calls Tryz.prog 14 #[.agg #[.int .i64 n, .int .i64 o, .slice A la ca, .slice B lb cb], .slice C len cap] w fun e' w' => e' = .returned (.bool (isIdB n o X Y L)) ∧ Below w.heap.size w w' := by
  obtain ⟨W, hW⟩ : ∃ W, w.alloc (.cells #[.int .i64 n, .int .i64 o, .slice A la ca, .slice B lb cb] 25) = W := ⟨_, rfl⟩
  have b0 : Below w.heap.size w W := by
    subst hW; exact (Below.refl _ _).alloc (Nat.le_refl _) _
  have k0 : Blk W w.heap.size 25 #[.int .i64 n, .int .i64 o, .slice A la ca, .slice B lb cb] := by
    subst hW; exact Blk.new w _ _
  obtain ⟨c0, c1, c2, c3⟩ := blk4 k0
  have HX := Lib.hid (hX.next b0)
  have HY := Lib.hid (hY.next b0)
  have HL := Lib.hid (hL.next b0)
  have B0 := Lib.hid b0
  have HW := Lib.hid hW
  have hs0 := b0.size
  clear hX hY hL b0 hW k0
  cases hd : ideB n o X Y L
  · have hz := Lib.hid (isId_no hd)
    have HD := Lib.hid hd
    clear hd
    go_enter Tryz.func14, Tryz.ntmps14
    go_wp2_with (fail)
    rw [HW.out]
    go_wp2_with (go_at_call 18; refine (idealOf_any n o A B C la ca lb cb len cap X Y L W HX.out HY.out HL.out hla hlb hlen hca hcb).mono ?_; rw [HD.out]; rintro e1 w1 ⟨v1, rfl, ⟨A1, l1, q1, rfl, ho1, hc1, hl1⟩, hb1⟩)
    go_ret
    exact ⟨ret_bool hz.out.symm, below_step B0.out hb1⟩
  · have hz := Lib.hid (isId_eq hd)
    have HD := Lib.hid hd
    clear hd
    go_enter Tryz.func14, Tryz.ntmps14
    go_wp2_with (fail)
    rw [HW.out]
    go_wp2_with (first
      | (go_at_call 18; refine (idealOf_any n o A B C la ca lb cb len cap X Y L W HX.out HY.out HL.out hla hlb hlen hca hcb).mono ?_; rw [HD.out]; rintro e1 w1 ⟨v1, rfl, ⟨A1, l1, q1, rfl, ho1, hc1, hl1⟩, hb1⟩; have B1 := Lib.hid (below_step B0.out hb1); have I1 := Lib.hid ho1.ints; have HL1 := Lib.hid (HL.out.next hb1); clear hb1 ho1)
      | (go_at_call 51; refine (slEqual_any C A1 len l1 cap q1 L _ w1 _ _ HL1.out I1.out hlen).mono ?_; rintro e2 w2 ⟨rfl, hb2⟩))
    go_ret
    exact ⟨ret_bool (by rw [hz.out]), below_step B1.out hb2⟩

end Go.Proofs.YtajoimopahibcaaGreat



/- The set of an ideal; functions of two ideals; meets and products of the program. -/
namespace Go.Proofs.YtajoimopahibcaaGreat
open Go.RowKit Go.Shelf
set_option maxRecDepth 100000
attribute [local go_sem] Oper.semAt_some

noncomputable def idS (n o : Int) (X Y L : List Int) : Nat → Bool := if isIdB n o X Y L = true then setL L else fun _ => false
theorem idS_yes {n o : Int} {X Y L : List Int} (h : isIdB n o X Y L = true) : idS n o X Y L = setL L := if_pos h
theorem idS_no {n o : Int} {X Y L : List Int} (h : isIdB n o X Y L = false) : idS n o X Y L = fun _ => false := if_neg (by rw [h]; simp)

set_option maxHeartbeats 4000000 in
theorem idealSet_any (n o : Int) (A B C : Option Addr) (la ca lb cb len cap : Nat) (X Y L : List Int) (w : World) (hX : Ints w w.heap.size A la X) (hY : Ints w w.heap.size B lb Y) (hL : Ints w w.heap.size C len L) (hla : la ≤ 9223372036854775807) (hlb : lb ≤ 9223372036854775807) (hlen : len ≤ 9223372036854775807) (hca : la ≤ ca) (hcb : lb ≤ cb) :
    Calls Tryz.prog 39 #[.agg #[.int .i64 n, .int .i64 o, .slice A la ca, .slice B lb cb], .slice C len cap] w fun e' w' => e' = .returned (.tuple #[.agg (setP (idS n o X Y L)), .bool (isIdB n o X Y L)]) ∧ Below w.heap.size w w' := by
  obtain ⟨W, hW⟩ : ∃ W, (w.alloc (.cells #[.int .i64 n, .int .i64 o, .slice A la ca, .slice B lb cb] 25)).alloc (.cells (setP fun _ => false) 50) = W := ⟨_, rfl⟩
  have b0 : Below w.heap.size w W := by
    subst hW; exact ((Below.refl _ _).alloc (Nat.le_refl _) _).alloc (by simp) _
  have k0 : Blk W w.heap.size 25 #[.int .i64 n, .int .i64 o, .slice A la ca, .slice B lb cb] := by
    subst hW; exact (Blk.new w _ _).alloc _
  have k1 : Blk W (w.heap.size + 1) 50 (setP fun _ => false) := by
    subst hW
    have := Blk.new (w.alloc (.cells #[.int .i64 n, .int .i64 o, .slice A la ca, .slice B lb cb] 25)) 50 (setP fun _ => false)
    rw [World.size_alloc] at this
    exact this
  obtain ⟨c0, c1, c2, c3⟩ := blk4 k0
  have HX0 := Lib.hid hX
  have HX := Lib.hid (hX.next b0)
  have HY0 := Lib.hid hY
  have HY := Lib.hid (hY.next b0)
  have HL0 := Lib.hid hL
  have HL := Lib.hid (hL.next b0)
  have B0 := Lib.hid b0
  have K1 := Lib.hid k1
  have hs0 := k1.lt
  rw [setP_nil] at hW
  have HW := Lib.hid hW
  clear hX hY hL b0 hW k0 k1
  cases hd : isIdB n o X Y L
  · have hz := Lib.hid (idS_no hd)
    have HD := Lib.hid hd
    clear hd
    go_enter Tryz.func39, Tryz.ntmps39
    go_wp2_with (fail)
    rw [HW.out]
    have hz16' : (#[.bool false, .bool false, .bool false, .bool false, .bool false, .bool false, .bool false, .bool false, .bool false, .bool false, .bool false, .bool false, .bool false, .bool false, .bool false, .bool false] : Array Value) = setP fun _ => false := setP_nil.symm
    have hi : (Tryz.prog.info? 50).map (·.size) = some (#[.bool false, .bool false, .bool false, .bool false, .bool false, .bool false, .bool false, .bool false, .bool false, .bool false, .bool false, .bool false, .bool false, .bool false, .bool false, .bool false] : Array Value).size := by rw [hz16']; exact set_info setP_size
    have h1 : (#[.bool false, .bool false, .bool false, .bool false, .bool false, .bool false, .bool false, .bool false, .bool false, .bool false, .bool false, .bool false, .bool false, .bool false, .bool false, .bool false] : Array Value).all (·.oneCell') = true := by rw [hz16']; exact setP_one
    have hz16 := Lib.hid hz16'
    clear hz16'
    go_wp2_with (first
      | (go_at_call 14; refine (isId_any n o A B C la ca lb cb len cap X Y L W HX.out HY.out HL.out hla hlb hlen hca hcb).mono ?_; rw [HD.out]; rintro e1 w1 ⟨rfl, hb1⟩; have k1 := K1.out.next hb1; rw [setP_nil] at k1; have B1 := Lib.hid (below_step B0.out hb1); clear hb1)
      | (refine wpList_store_row rfl 50 (.tmp 4) (.tmp 10) rfl (w.heap.size + 1) #[.bool false, .bool false, .bool false, .bool false, .bool false, .bool false, .bool false, .bool false, .bool false, .bool false, .bool false, .bool false, .bool false, .bool false, .bool false, .bool false] rfl rfl _ _ k1 hi rfl h1 ?_))
    refine bodyPost_ret (results_cell_flag Tryz.results39 _ _ (w.heap.size + 1) 50 #[.bool false, .bool false, .bool false, .bool false, .bool false, .bool false, .bool false, .bool false, .bool false, .bool false, .bool false, .bool false, .bool false, .bool false, .bool false, .bool false] _ (.bool false) rfl rfl (k1.rowTo _) Tryz.underlying50 rfl hi) rfl ⟨by rw [hz.out, ← hz16.out], below_setRow B1.out (by omega) _⟩
  · have hz := Lib.hid (idS_yes hd)
    have hdI := isId_ide hd
    obtain ⟨hv, ha⟩ := ide_data hdI
    obtain ⟨m, e, b1, o1, b2, o2, rfl, rfl, rfl, rfl, hr, _, _, _, _, _⟩ := valid_data hv HX0.out HY0.out hca hcb
    obtain ⟨LF, rfl⟩ := finOf (all_iff.1 ha)
    have hm' := hr.hm'
    have HD := Lib.hid hd
    obtain ⟨U, hU⟩ : ∃ U, setP (memB (finN LF)) = U := ⟨_, rfl⟩
    have hs1 : U.size = 16 := by rw [← hU, setP_size]
    have hs2 : U.all (·.oneCell') = true := by rw [← hU]; exact setP_one
    have hi := set_info hs1
    have hold : (setP fun _ => false).size = U.size := by rw [hs1, setP_size]
    have HU := Lib.hid hU
    have HUA := Lib.hid (show setA (finN LF) = U from hU)
    have EG := Lib.hid (enters_of Tryz.func104 (by kernel_rfl) rfl)
    clear hd hU hr hdI hv ha
    go_enter Tryz.func39, Tryz.ntmps39
    go_wp2_with (fail)
    rw [HW.out]
    go_wp2_with (first
      | (go_at_call 14; refine (isId_any m e _ _ C la ca lb cb len cap X Y (finI LF) W HX.out HY.out HL.out hla hlb hlen hca hcb).mono ?_; rw [HD.out]; rintro e1 w1 ⟨rfl, hb1⟩; have K2 := Lib.hid (K1.out.next hb1); have B1 := Lib.hid (below_step B0.out hb1); have s1 := hb1.size; clear hb1)
      | (go_at_call 63; refine (values_any C len cap w1).mono ?_; rintro e2 w2 ⟨rfl, hB2, hb2⟩; have K3 := Lib.hid (K2.out.next hb2); have B2 := Lib.hid (below_step B1.out hb2); have s2 := hb2.size; have SQ := Lib.hid (values_seq (n0 := w2.heap.size) LF w2 hlen hB2 (HL0.out.next B2.out) (Nat.le_refl _)); clear hb2 hB2)
      | (go_at_call 84; refine (setOf_any m _ w2.heap.size len _ LF _ w2 hm' EG.out SQ.out (Nat.le_refl _)).mono ?_; rw [HUA.out]; rintro e3 w3 ⟨rfl, hb3⟩; have k4 := K3.out.next hb3; have B3 := Lib.hid (below_step B2.out hb3); clear hb3)
      | (refine wpList_store_row rfl 50 (.tmp 4) (.tmp 13) rfl (w.heap.size + 1) U rfl rfl _ _ k4 hi hold hs2 ?_))
    exact bodyPost_ret (results_cell_flag Tryz.results39 _ _ (w.heap.size + 1) 50 U _ (.bool true) rfl rfl (k4.rowTo U) Tryz.underlying50 rfl hi) rfl ⟨by rw [hz.out, setL_fin, HU.out], below_setRow B3.out (by omega) U⟩

theorem wpQuiet_load_rowG {P : Program} {ops : Array Oper} {C : World → Prop} {Q : Act → Prop} {rest : List Oper} {o : Oper} {a : Act} (hw : Region.wanted o (yielded ops a.tmps) = true) (ty : TypeId) (x : Operand) (ho : o.op = .load ty x)
    (g : Nat) (hx : a.eval x = .pointer (some ⟨g, 0, none⟩)) (t : TypeId) (cs : Array Value) (d : TypeDesc) (hg : ∀ w, C w → w.heap[g]? = some (.cells cs t (0, 0)))
    (hu : P.underlying ty = some d) (hd : (match d with | .struct _ | .array _ _ => true | _ => false) = true) (hi : (P.info? ty).map (·.size) = some cs.size)
    (h : wpQuiet P ops C Q rest (a.put o.dst (.agg cs))) : wpQuiet P ops C Q (o :: rest) a := by
  unfold wpQuiet
  rw [if_pos hw]
  refine ⟨.agg cs, fun w hw => ?_, h⟩
  unfold Oper.quietAt execOp
  simp only [ho, hx, Instr.loadAt, Instr.sureAddr, Sem.run_bind, Sem.run_pure, Result.andThen_ok, run_loadVar_row w g t ty cs (0, 0) d (hg w hw) hu hd hi]
  exact ⟨rfl, rfl⟩
theorem has2_val (p : Nat → Bool) (a : Nat) (b : Bool) (w : World) (ha : a < 16) (h : p a = b) : Calls Tryz.prog 65 #[.agg (setP p), .int .i64 a] w fun e w' => e = .returned (.bool b) ∧ Below w.heap.size w w' := h ▸ has2_any p a w ha
end Go.Proofs.YtajoimopahibcaaGreat



/- Functions of two ideals, of the program: sums, products, meets. -/
namespace Go.Proofs.YtajoimopahibcaaGreat
open Go.RowKit Go.Shelf
set_option maxRecDepth 100000
attribute [local go_sem] Oper.semAt_some

theorem set_row {w : World} {p : Nat → Bool} : Blk ((w.alloc (.cells #[.bool false, .bool false, .bool false, .bool false, .bool false, .bool false, .bool false, .bool false, .bool false, .bool false, .bool false, .bool false, .bool false, .bool false, .bool false, .bool false] 50)).setRow w.heap.size (setP p)) w.heap.size 50 (setP p) ∧ Below w.heap.size w ((w.alloc (.cells #[.bool false, .bool false, .bool false, .bool false, .bool false, .bool false, .bool false, .bool false, .bool false, .bool false, .bool false, .bool false, .bool false, .bool false, .bool false, .bool false] 50)).setRow w.heap.size (setP p)) :=
  ⟨(Blk.new w 50 #[.bool false, .bool false, .bool false, .bool false, .bool false, .bool false, .bool false, .bool false, .bool false, .bool false, .bool false, .bool false, .bool false, .bool false, .bool false, .bool false]).rowTo _, below_setRow ((Below.refl _ _).alloc (Nat.le_refl _) _) (Nat.le_refl _) _⟩

theorem idealSet_val {n o : Int} {A B C : Option Addr} {la ca lb cb len cap : Nat} {X Y L : List Int} {w : World} {p : Nat → Bool} {b : Bool} (h1 : idS n o X Y L = p) (h2 : isIdB n o X Y L = b) (hX : Ints w w.heap.size A la X) (hY : Ints w w.heap.size B lb Y) (hL : Ints w w.heap.size C len L) (hla : la ≤ 9223372036854775807) (hlb : lb ≤ 9223372036854775807) (hlen : len ≤ 9223372036854775807) (hca : la ≤ ca) (hcb : lb ≤ cb) :
    Calls Tryz.prog 39 #[.agg #[.int .i64 n, .int .i64 o, .slice A la ca, .slice B lb cb], .slice C len cap] w fun e' w' => e' = .returned (.tuple #[.agg (setP p), .bool b]) ∧ Below w.heap.size w w' := by
  rw [← h1, ← h2]
  exact idealSet_any n o A B C la ca lb cb len cap X Y L w hX hY hL hla hlb hlen hca hcb

def fiMk (i : Nat) : Bool := i == 5
structure FiPhi (D : Nat) (Z : List Int) (i : Nat) (v : Value) (w : World) : Prop where
  p5 : i = 5 → SliceOut D w v Z
structure FiSh (i : Nat) (v : Value) : Prop where
  p5 : i = 5 → ∃ A l c, v = .slice A l c
theorem FiPhi_stable {D : Nat} {Z : List Int} (i : Nat) (v : Value) (w w' : World) (h : FiPhi D Z i v w) (hb : Below w.heap.size w w') : FiPhi D Z i v w' := ⟨fun e => (h.p5 e).next hb⟩
theorem FiSh_of {D : Nat} {Z : List Int} (i : Nat) (v : Value) (w : World) (h : FiPhi D Z i v w) : FiSh i v := ⟨fun e => by obtain ⟨A, l, c, h1, _⟩ := h.p5 e; exact ⟨A, l, c, h1⟩⟩
theorem FiSh_zero (i : Nat) : FiSh i (.slice none 0 0) := ⟨fun _ => ⟨none, 0, 0, rfl⟩⟩

set_option maxHeartbeats 8000000 in
theorem fromIdeals_any (cf : Nat) (r : Nat → Bool) (n o : Int) (A B C D : Option Addr) (la ca lb cb len cap len' cap' : Nat) (X Y L K : List Int) (w : World) (hX : Ints w w.heap.size A la X) (hY : Ints w w.heap.size B lb Y) (hL : Ints w w.heap.size C len L) (hK : Ints w w.heap.size D len' K) (hla : la ≤ 9223372036854775807) (hlb : lb ≤ 9223372036854775807) (hlen : len ≤ 9223372036854775807) (hlen' : len' ≤ 9223372036854775807) (hca : la ≤ ca) (hcb : lb ≤ cb)
    (eg : ∀ args w, (callFunc cf args).run Tryz.prog w = .ok (.enter cf args) w)
    (hcomb : twoI n o X Y L K = true → ∀ V, Below w.heap.size w V → Calls Tryz.prog cf #[.agg #[.int .i64 n, .int .i64 o, .slice A la ca, .slice B lb cb], .agg (setP (setL L)), .agg (setP (setL K))] V fun e' w' => e' = .returned (.agg (setP r)) ∧ Below V.heap.size V w') :
    Calls Tryz.prog 59 #[.agg #[.int .i64 n, .int .i64 o, .slice A la ca, .slice B lb cb], .slice C len cap, .slice D len' cap', .func (.func cf) #[.agg #[.int .i64 n, .int .i64 o, .slice A la ca, .slice B lb cb]] #[]] w fun e' w' => ∃ v, e' = .returned (.tuple #[v, .bool (twoI n o X Y L K)]) ∧ SliceOut w.heap.size w' v (fromL n o X Y L K r) ∧ Below w.heap.size w w' := by
  obtain ⟨W, hW⟩ : ∃ W, w.alloc (.cells #[.int .i64 n, .int .i64 o, .slice A la ca, .slice B lb cb] 25) = W := ⟨_, rfl⟩
  have b0 : Below w.heap.size w W := by
    subst hW; exact (Below.refl _ _).alloc (Nat.le_refl _) _
  have k0 : Blk W w.heap.size 25 #[.int .i64 n, .int .i64 o, .slice A la ca, .slice B lb cb] := by
    subst hW; exact Blk.new w _ _
  obtain ⟨c0, c1, c2, c3⟩ := blk4 k0
  obtain ⟨bL, hbL⟩ : ∃ b, isIdB n o X Y L = b := ⟨_, rfl⟩
  obtain ⟨bK, hbK⟩ : ∃ b, isIdB n o X Y K = b := ⟨_, rfl⟩
  obtain ⟨p, hp⟩ : ∃ p, idS n o X Y L = p := ⟨_, rfl⟩
  obtain ⟨q, hq⟩ : ∃ q, idS n o X Y K = q := ⟨_, rfl⟩
  have HX0 := Lib.hid hX
  have HY0 := Lib.hid hY
  have HL0 := Lib.hid hL
  have HK0 := Lib.hid hK
  have B0 := Lib.hid b0
  have HW := Lib.hid hW
  have K0 := Lib.hid k0
  have HBL := Lib.hid hbL
  have HBK := Lib.hid hbK
  have HP := Lib.hid hp
  have HQ := Lib.hid hq
  have HC := Lib.hid hcomb
  have HEG := Lib.hid eg
  have hs0 := k0.lt
  have hip := set_info (setP_size (p := p))
  have hop := setP_one (p := p)
  have hiq := set_info (setP_size (p := q))
  have hoq := setP_one (p := q)
  have holdp : (#[.bool false, .bool false, .bool false, .bool false, .bool false, .bool false, .bool false, .bool false, .bool false, .bool false, .bool false, .bool false, .bool false, .bool false, .bool false, .bool false] : Array Value).size = (setP p).size := by rw [setP_size]; rfl
  have holdq : (#[.bool false, .bool false, .bool false, .bool false, .bool false, .bool false, .bool false, .bool false, .bool false, .bool false, .bool false, .bool false, .bool false, .bool false, .bool false, .bool false] : Array Value).size = (setP q).size := by rw [setP_size]; rfl
  clear hX hY hL hK b0 hW k0 hbL hbK hp hq hcomb eg
  go_enter Tryz.func59, Tryz.ntmps59
  go_wp2_with (fail)
  rw [HW.out]
  refine (idealSet_val HP.out HBL.out (HX0.out.next B0.out) (HY0.out.next B0.out) (HL0.out.next B0.out) hla hlb hlen hca hcb).mono ?_
  rintro e1 w1 ⟨rfl, hb1⟩
  have B1 := Lib.hid (below_step B0.out hb1)
  have K1 := Lib.hid (K0.out.next hb1)
  have s1 := hb1.size
  obtain ⟨g1, hg1⟩ : ∃ g1, w1.heap.size = g1 := ⟨_, rfl⟩
  clear hb1 c0 c1 c2 c3
  have KN1 : Blk (w1.alloc (.cells #[.bool false, .bool false, .bool false, .bool false, .bool false, .bool false, .bool false, .bool false, .bool false, .bool false, .bool false, .bool false, .bool false, .bool false, .bool false, .bool false] 50)) g1 50 #[.bool false, .bool false, .bool false, .bool false, .bool false, .bool false, .bool false, .bool false, .bool false, .bool false, .bool false, .bool false, .bool false, .bool false, .bool false, .bool false] := by rw [← hg1]; exact Blk.new _ _ _
  go_upto_region 2 with (refine wpList_store_row rfl 50 (.tmp 10) (.tmp 18) rfl g1 (setP p) rfl rfl _ _ KN1 hip holdp hop ?_)
  obtain ⟨V1, hV1⟩ : ∃ V1, (w1.alloc (.cells #[.bool false, .bool false, .bool false, .bool false, .bool false, .bool false, .bool false, .bool false, .bool false, .bool false, .bool false, .bool false, .bool false, .bool false, .bool false, .bool false] 50)).setRow g1 (setP p) = V1 := ⟨_, rfl⟩
  have bV1 : Below w1.heap.size w1 V1 := by subst hV1 hg1; exact set_row.2
  have kV1 : Blk V1 g1 50 (setP p) := by subst hV1 hg1; exact set_row.1
  rw [hV1]
  have B2 := Lib.hid (below_step B1.out bV1)
  have K2 := Lib.hid (K1.out.next bV1)
  have G1 := Lib.hid kV1
  have s2 := kV1.lt
  obtain ⟨c0, c1, c2, c3⟩ := blk4 K2.out
  clear hV1 bV1 kV1 KN1
  go_wp2_with (fail)
  refine (idealSet_val HQ.out HBK.out (HX0.out.next B2.out) (HY0.out.next B2.out) (HK0.out.next B2.out) hla hlb hlen' hca hcb).mono ?_
  rintro e2 w2 ⟨rfl, hb2⟩
  have B3 := Lib.hid (below_step B2.out hb2)
  have K3 := Lib.hid (K2.out.next hb2)
  have G2 := Lib.hid (G1.out.next hb2)
  have s3 := hb2.size
  obtain ⟨g2, hg2⟩ : ∃ g2, w2.heap.size = g2 := ⟨_, rfl⟩
  clear hb2 c0 c1 c2 c3
  have KN2 : Blk (w2.alloc (.cells #[.bool false, .bool false, .bool false, .bool false, .bool false, .bool false, .bool false, .bool false, .bool false, .bool false, .bool false, .bool false, .bool false, .bool false, .bool false, .bool false] 50)) g2 50 #[.bool false, .bool false, .bool false, .bool false, .bool false, .bool false, .bool false, .bool false, .bool false, .bool false, .bool false, .bool false, .bool false, .bool false, .bool false, .bool false] := by rw [← hg2]; exact Blk.new _ _ _
  go_upto_region 3 with (refine wpList_store_row rfl 50 (.tmp 12) (.tmp 24) rfl g2 (setP q) rfl rfl _ _ KN2 hiq holdq hoq ?_)
  obtain ⟨V2, hV2⟩ : ∃ V2, (w2.alloc (.cells #[.bool false, .bool false, .bool false, .bool false, .bool false, .bool false, .bool false, .bool false, .bool false, .bool false, .bool false, .bool false, .bool false, .bool false, .bool false, .bool false] 50)).setRow g2 (setP q) = V2 := ⟨_, rfl⟩
  have bV2 : Below w2.heap.size w2 V2 := by subst hV2 hg2; exact set_row.2
  have kV2 : Blk V2 g2 50 (setP q) := by subst hV2 hg2; exact set_row.1
  rw [hV2]
  have B4 := Lib.hid (below_step B3.out bV2)
  have K4 := Lib.hid (K3.out.next bV2)
  have G3 := Lib.hid (G2.out.next bV2)
  have H3 := Lib.hid kV2
  clear hV2 bV2 kV2 KN2
  cases bL
  · have hz := Lib.hid (two_no1 (K := K) HBL.out)
    go_wp2
    go_ret2
    exact ⟨.slice none 0 0, by rw [hz.out]; rfl, by rw [fromL_no hz.out]; exact SliceOut.nil, B4.out⟩
  · cases bK
    · have hz := Lib.hid (two_no2 (L := L) HBK.out)
      go_wp2
      go_ret2
      exact ⟨.slice none 0 0, by rw [hz.out]; rfl, by rw [fromL_no hz.out]; exact SliceOut.nil, B4.out⟩
    · have ht := two_yes HBL.out HBK.out
      have hz := Lib.hid ht
      have HC := Lib.hid (HC.out ht)
      rw [idS_yes HBL.out] at HP
      rw [idS_yes HBK.out] at HQ
      obtain ⟨m, e, b1, o1, b2, o2, rfl, rfl, rfl, rfl, hr, _, _, _, _, _⟩ := valid_data (ide_data (isId_ide HBL.out)).1 HX0.out HY0.out hca hcb
      have hm' := hr.hm'
      have hFL := Lib.hid (show fromL m e X Y L K r = lstP m r by rw [fromL_yes hz.out, Int.toNat_natCast])
      clear ht hr
      go_upto_region 5 with (fail)
      refine wp_region_makersE 7 fiMk (FiPhi w.heap.size (lstP m r)) FiSh (fun _ => .slice none 0 0) probe (by kernel_rfl) (by kernel_rfl) FiPhi_stable (fun i v x _ => FiSh_of i v x) (fun i _ => FiSh_zero i) ?_
      intro V hV vs hvs
      obtain ⟨A5, l5, c5, e5⟩ := (hvs 5 rfl).p5 rfl
      have cW : ∃ x, extC V x := ⟨V, extC_of (Below.refl _ _)⟩
      have KX := Lib.hid (show ∀ x, extC V x → Below w.heap.size w x from fun x ⟨u, hu⟩ => by rw [hu]; exact below_step (below_step B4.out hV) (ext_below V u))
      have KU := Lib.hid (show ∀ u, Below w.heap.size w (ext V u) from fun u => below_step (below_step B4.out hV) (ext_below V u))
      have Q1 := Lib.hid (G3.out.next hV).inC
      have Q2 := Lib.hid (H3.out.next hV).inC
      obtain ⟨f0, f1, f2, f3⟩ := blk4 (K4.out.next hV)
      have egc := HEG.out
      have HC2 := Lib.hid (show ∀ V, Below w.heap.size w V → Calls Tryz.prog cf #[.agg #[.int .i64 m, .int .i64 e, .slice (some ⟨b1, o1, none⟩) la ca, .slice (some ⟨b2, o2, none⟩) lb cb], .agg (setP p), .agg (setP q)] V fun e' w' => e' = .returned (.agg (setP r)) ∧ Below V.heap.size V w' by rw [← HP.out, ← HQ.out]; exact HC.out)
      clear hV
      simp only [List.take_succ_cons, List.take_zero, List.drop_succ_cons, List.drop_zero]
      refine wpV_quietE cW 5 0 _ _ (by decide) (by decide) ?_
      simp only [List.take_succ_cons, List.take_zero, List.drop_succ_cons, List.drop_zero]
      repeat (first
        | (refine wpQuiet_load_row rfl 50 (.tmp 10) rfl g1 rfl _ (setP p) _ Q1.out Tryz.underlying50 rfl hip ?_; go_simp)
        | (refine wpQuiet_load_row rfl 50 (.tmp 12) rfl g2 rfl _ (setP q) _ Q2.out Tryz.underlying50 rfl hiq ?_; go_simp)
        | (go_big_quiet_step ((exact calls_ext (HC2.out _ (KU.out _))))))
      refine wpQuiet_nil ?_
      refine wpV_make_E rfl rfl (fun x hx hd => ?_) ?_
      · unfold makesAtE
        go_simp
        refine ⟨rfl, (elements_any r m e _ _ la ca lb cb x hm').mono ?_⟩
        rintro _ x' ⟨v, rfl, ho, hb⟩
        exact ⟨_, rfl, hb, ⟨fun _ => ho.down (KX.out x hx).size⟩, fun b hbb => (by cases hbb)⟩
      rw [e5]
      go_simp
      refine wpV_quietE cW 1 _ _ _ (by decide) (by decide) ?_
      simp only [List.take_succ_cons, List.take_zero, List.drop_succ_cons, List.drop_zero]
      repeat (go_big_quiet_step (fail))
      refine wpQuiet_nil ?_
      refine wpV_nilE ?_
      intro w3 hb3 hf _
      have h5 := (hf 5 (by decide) rfl).p5 rfl
      rw [e5] at h5
      have H5 := Lib.hid h5
      have BB := Lib.hid (below_step B4.out hb3)
      clear hb3 hf h5
      go_wp2
      go_ret2
      exact ⟨.slice A5 l5 c5, by rw [hz.out]; rfl, by rw [hFL.out]; exact H5.out, BB.out⟩

end Go.Proofs.YtajoimopahibcaaGreat



/- Products and meets of ideals of the program; SumIdeal, ProductIdeal, MeetIdeal. -/
namespace Go.Proofs.YtajoimopahibcaaGreat
open Go.RowKit Go.Shelf
set_option maxRecDepth 100000
attribute [local go_sem] Oper.semAt_some

theorem memB_sel {m : Nat} {p : Nat → Bool} (hp : ∀ i, p i = true → i < m) : memB (finN (selTo m p m)) = p := bool_ext fun i => by rw [memB_iff, lst_in]; exact ⟨fun h => h.2, fun h => ⟨hp i h, h⟩⟩

theorem sumI_comb {n o : Int} {A B : Option Addr} {la ca lb cb : Nat} {X Y L K : List Int} {w V : World} (hX : Ints w w.heap.size A la X) (hY : Ints w w.heap.size B lb Y) (hca : la ≤ ca) (hcb : lb ≤ cb) (h : twoI n o X Y L K = true) (hV : Below w.heap.size w V) :
    Calls Tryz.prog 60 #[.agg #[.int .i64 n, .int .i64 o, .slice A la ca, .slice B lb cb], .agg (setP (setL L)), .agg (setP (setL K))] V fun e' w' => e' = .returned (.agg (setP (opsB n.toNat (tabOf X) (setL L) (setL K)))) ∧ Below V.heap.size V w' := by
  obtain ⟨m, e, b1, o1, b2, o2, rfl, rfl, rfl, rfl, hr, _, _, _, _, _⟩ := valid_data (ide_data (isId_ide (two_data h).1)).1 (hX.next hV) (hY.next hV) hca hcb
  obtain ⟨hv, hi, _⟩ := isId_data (two_data h).1
  obtain ⟨_, hj, _⟩ := isId_data (two_data h).2
  have R := rtab_of_valid hv
  try simp only [Int.toNat_natCast]
  exact idealSum_any (setL L) (setL K) m e b1 o1 la ca b2 o2 lb cb (tabOf X) (tabOf Y) V hr hi.lt hj.lt
set_option maxHeartbeats 2000000 in
theorem sumI_any (n o : Int) (A B C D : Option Addr) (la ca lb cb len len' cap cap' : Nat) (X Y L K : List Int) (w : World) (hX : Ints w w.heap.size A la X) (hY : Ints w w.heap.size B lb Y) (hL : Ints w w.heap.size C len L) (hK : Ints w w.heap.size D len' K) (hla : la ≤ 9223372036854775807) (hlb : lb ≤ 9223372036854775807) (hlen : len ≤ 9223372036854775807) (hlen' : len' ≤ 9223372036854775807) (hca : la ≤ ca) (hcb : lb ≤ cb) :
    Calls Tryz.prog 16 #[.agg #[.int .i64 n, .int .i64 o, .slice A la ca, .slice B lb cb], .slice C len cap, .slice D len' cap'] w fun e' w' => ∃ v, e' = .returned (.tuple #[v, .bool (twoI n o X Y L K)]) ∧ SliceOut w.heap.size w' v (sumL n o X Y L K) ∧ Below w.heap.size w w' := by
  obtain ⟨W, hW⟩ : ∃ W, w.alloc (.cells #[.int .i64 n, .int .i64 o, .slice A la ca, .slice B lb cb] 25) = W := ⟨_, rfl⟩
  have b0 : Below w.heap.size w W := by
    subst hW; exact (Below.refl _ _).alloc (Nat.le_refl _) _
  have k0 : Blk W w.heap.size 25 #[.int .i64 n, .int .i64 o, .slice A la ca, .slice B lb cb] := by
    subst hW; exact Blk.new w _ _
  obtain ⟨c0, c1, c2, c3⟩ := blk4 k0
  have HX := Lib.hid (hX.next b0)
  have HY := Lib.hid (hY.next b0)
  have HL := Lib.hid (hL.next b0)
  have HK := Lib.hid (hK.next b0)
  have B0 := Lib.hid b0
  have HW := Lib.hid hW
  have hs0 := b0.size
  have EG := Lib.hid (enters_of Tryz.func60 (by kernel_rfl) rfl)
  clear hX hY hL hK b0 hW k0
  go_enter Tryz.func16, Tryz.ntmps16
  go_wp2_with (fail)
  rw [HW.out]
  refine (fromIdeals_any 60 _ n o A B C D la ca lb cb len cap len' cap' X Y L K W HX.out HY.out HL.out HK.out hla hlb hlen hlen' hca hcb EG.out (fun h V hV => sumI_comb HX.out HY.out hca hcb h hV)).mono ?_
  rintro e1 w1 ⟨v, rfl, ho, hb1⟩
  have HO := Lib.hid ho
  have B1 := Lib.hid (below_step B0.out hb1)
  clear ho hb1 c0 c1 c2 c3
  go_wp2
  go_ret2
  exact ⟨v, rfl, HO.out.down hs0, B1.out⟩

end Go.Proofs.YtajoimopahibcaaGreat



/- The reading side's functions of two ideals: products, meets, quotients. -/
namespace Go.Proofs.YtajoimopahibcaaGreat
open Go.RowKit Go.Shelf
set_option maxRecDepth 100000

def NotTo (xs : List Int) (a : Int) (k : Nat) : Prop := ∀ j, j < k → xs[j]?.getD 0 ≠ a
theorem notTo_mem {xs : List Int} {a : Int} (h : NotTo xs a xs.length) : decide (a ∈ xs) = false := decide_eq_false fun hm => by
  obtain ⟨j, hj, e⟩ := List.getElem_of_mem hm
  have := h j hj
  rw [List.getElem?_eq_getElem hj] at this
  exact this e
theorem at_mem {xs : List Int} {a : Int} {k : Nat} (hk : k < xs.length) (h : xs[k]?.getD 0 = a) : decide (a ∈ xs) = true := decide_eq_true (by
  rw [List.getElem?_eq_getElem hk] at h
  exact h ▸ List.getElem_mem hk)

set_option maxHeartbeats 1000000 in
theorem l4Has_any (A : Option Addr) (len cap : Nat) (xs : List Int) (a : Int) (w : World) (E : Nat) (hI : Ints w E A len xs) (hlen : len ≤ 9223372036854775807) :
    Calls Tryz.prog 45 #[.slice A len cap, .int .i64 a] w fun e w' => e = .returned (.bool (decide (a ∈ xs))) ∧ w = w' := by
  have HL := Lib.hid hI.1
  have HI := Lib.hid hI
  clear hI
  go_enter Tryz.func45, Tryz.ntmps45
  go_wp2
  go_loop [9] (fun vi => ∃ k : Nat, k ≤ len ∧ vi = .int .i64 k ∧ NotTo xs a k) (fun vi => len - (intOf vi).toNat)
  case atStart => exact ⟨0, Nat.zero_le _, rfl, fun j hj => absurd hj (by omega)⟩
  case round =>
    obtain ⟨k, hk, rfl, hn⟩ := hrel
    have HN := Lib.hid hn
    clear hn
    by_cases hlt : k < len
    · obtain ⟨b, off, rfl, _, hc⟩ := HI.out.at_ hlt
      by_cases he : xs[k]?.getD 0 = a
      · have HE := Lib.hid (at_mem (by rw [HL.out]; exact hlt) he)
        rw [he] at hc
        clear he
        go_wp2
        go_ret
        exact ⟨ret_bool HE.out.symm, rfl⟩
      · have HE := Lib.hid he
        obtain ⟨v, hv⟩ : ∃ v, xs[k]?.getD 0 = v := ⟨_, rfl⟩
        rw [hv] at hc
        have te : (a == v) = false := by rw [beq_eq_false_iff_ne]; intro e; exact he (by rw [hv, e])
        clear he hv
        go_wp2
        go_round
        case rel => exact ⟨k + 1, by omega, by go_num, forall_succ HN.out HE.out⟩
        case measure => simp [intOf]; omega
    · have hkm : k = len := by omega
      subst hkm
      go_wp2
      go_ret
      exact ⟨ret_bool (notTo_mem (by rw [HL.out]; exact HN.out)).symm, rfl⟩

theorem setL_has {m : Nat} {p : Nat → Bool} (hp : ∀ i, p i = true → i < m) (i : Nat) : decide ((i : Int) ∈ lstP m p) = p i := by
  rw [Bool.eq_iff_iff, decide_eq_true_iff]
  unfold lstP finI
  rw [List.mem_map]
  constructor
  · rintro ⟨x, hx, e⟩
    have := (selTo_in m (Nat.le_refl _)).1 hx
    have e' : x.1 = i := by omega
    rw [← e']; exact this.2
  · intro h
    exact ⟨⟨i, hp i h⟩, (selTo_in m (Nat.le_refl _)).2 ⟨hp i h, h⟩, rfl⟩
theorem l4HasP_any (A : Option Addr) (len cap : Nat) (m : Nat) (p : Nat → Bool) (i : Nat) (w : World) (E : Nat) (hp : ∀ i, p i = true → i < m) (hI : Ints w E A len (lstP m p)) (hlen : len ≤ 9223372036854775807) :
    Calls Tryz.prog 45 #[.slice A len cap, .int .i64 i] w fun e w' => e = .returned (.bool (p i)) ∧ w = w' := by
  rw [← setL_has hp i]
  exact l4Has_any A len cap (lstP m p) i w E hI hlen

theorem sisId_val {n o : Int} {A B C : Option Addr} {la ca lb cb len cap : Nat} {X Y L : List Int} {w : World} {b : Bool} (h2 : isIdB n o X Y L = b) (hX : Ints w w.heap.size A la X) (hY : Ints w w.heap.size B lb Y) (hL : Ints w w.heap.size C len L) (hla : la ≤ 9223372036854775807) (hlb : lb ≤ 9223372036854775807) (hlen : len ≤ 9223372036854775807) (hca : la ≤ ca) (hcb : lb ≤ cb) :
    Calls Tryz.prog 44 #[.agg #[.int .i64 n, .int .i64 o, .slice A la ca, .slice B lb cb], .slice C len cap] w fun e' w' => e' = .returned (.bool b) ∧ Below w.heap.size w w' := h2 ▸ sisId_any n o A B C la ca lb cb len cap X Y L w hX hY hL hla hlb hlen hca hcb

end Go.Proofs.YtajoimopahibcaaGreat



/- The reading side's MeetIdeal and RadicalOf. -/
namespace Go.Proofs.YtajoimopahibcaaGreat
open Go.RowKit Go.Shelf
set_option maxRecDepth 100000

end Go.Proofs.YtajoimopahibcaaGreat



/- RadicalOf of the program; no two elements outside of an ideal have a product in it. -/
namespace Go.Proofs.YtajoimopahibcaaGreat
open Go.RowKit Go.Shelf
set_option maxRecDepth 100000
attribute [local go_sem] Oper.semAt_some

end Go.Proofs.YtajoimopahibcaaGreat



/- RadicalOf of the program; the search for two elements outside of an ideal with a product in it. -/
namespace Go.Proofs.YtajoimopahibcaaGreat
open Go.RowKit Go.Shelf
set_option maxRecDepth 100000
attribute [local go_sem] Oper.semAt_some

/-- Products with elements outside of an ideal are outside, for these elements. -/
def PrTo (m : Nat) (P : Nat → Nat) (p : Nat → Bool) (l : List Nat) : Prop := ∀ x ∈ l, ∀ y, y < m → p y = false → p (P (x * m + y)) = false
noncomputable def prI (m : Nat) (P : Nat → Nat) (p : Nat → Bool) : Bool := propB (PrTo m P p (finN (selTo m (fun i => !p i) m)))
def PrAt (m : Nat) (P : Nat → Nat) (p : Nat → Bool) (x : Nat) (l : List Nat) : Prop := ∀ y ∈ l, p (P (x * m + y)) = false
theorem prTo_snoc {m : Nat} {P : Nat → Nat} {p : Nat → Bool} {l : List Nat} {x : Nat} (h : PrTo m P p l) (h1 : PrAt m P p x (finN (selTo m (fun i => !p i) m))) : PrTo m P p (l ++ [x]) := fun z hz y hy hp => by
  rcases List.mem_append.1 hz with h2 | h2
  · exact h z h2 y hy hp
  · rw [List.mem_singleton] at h2
    subst h2
    exact h1 y (lst_in.2 ⟨hy, by rw [hp]; rfl⟩)

set_option maxHeartbeats 8000000 in
theorem isPrime_any (p : Nat → Bool) (m e b1 o1 la ca b2 o2 lb cb : Nat) (S P : Nat → Nat) (w : World) (hr : RingAt w m e b1 o1 la ca b2 o2 lb cb S P) (_hp : ∀ i, p i = true → i < m) :
    Calls Tryz.prog 41 #[.agg #[.int .i64 m, .int .i64 e, .slice (some ⟨b1, o1, none⟩) la ca, .slice (some ⟨b2, o2, none⟩) lb cb], .agg (setP p)] w fun e' w' => e' = .returned (.bool (prI m P p)) ∧ Below w.heap.size w w' := by
  obtain ⟨s, hs⟩ : ∃ s, w.heap.size = s := ⟨_, rfl⟩
  obtain ⟨W, hW⟩ : ∃ W, ((w.alloc (.cells #[.int .i64 m, .int .i64 e, .slice (some ⟨b1, o1, none⟩) la ca, .slice (some ⟨b2, o2, none⟩) lb cb] 25)).alloc (.cells (setP p) 50)).alloc (.cells #[.bool false] 4) = W := ⟨_, rfl⟩
  have k0 : Blk W s 25 #[.int .i64 m, .int .i64 e, .slice (some ⟨b1, o1, none⟩) la ca, .slice (some ⟨b2, o2, none⟩) lb cb] := by
    subst hW hs; exact ((Blk.new w _ _).alloc _).alloc _
  have k1 : Blk W (s + 1) 50 (setP p) := by
    subst hW hs
    have := (Blk.new (w.alloc (.cells #[.int .i64 m, .int .i64 e, .slice (some ⟨b1, o1, none⟩) la ca, .slice (some ⟨b2, o2, none⟩) lb cb] 25)) 50 (setP p)).alloc (.cells #[.bool false] 4)
    rw [World.size_alloc] at this
    exact this
  have k2 : Blk W (s + 2) 4 #[.bool false] := by
    subst hW hs
    have := Blk.new ((w.alloc (.cells #[.int .i64 m, .int .i64 e, .slice (some ⟨b1, o1, none⟩) la ca, .slice (some ⟨b2, o2, none⟩) lb cb] 25)).alloc (.cells (setP p) 50)) 4 #[.bool false]
    rw [World.size_alloc, World.size_alloc] at this
    exact this
  have b0 : Below s w W := by
    subst hW hs; exact (((Below.refl _ _).alloc (Nat.le_refl _) _).alloc (by simp) _).alloc (by simp; omega) _
  have zW : s + 3 ≤ W.heap.size := k2.lt
  rw [hs]
  have hsw : s ≤ w.heap.size := by omega
  have hm' := hr.hm'
  have HR0 := Lib.hid hr
  have HS := Lib.hid hs
  have HW := Lib.hid hW
  have K0 := Lib.hid k0
  have K1 := Lib.hid k1
  have K2 := Lib.hid k2
  have B0 := Lib.hid b0
  obtain ⟨c0, c1, c2, c3⟩ := blk4 k0
  have hip := set_info (setP_size (p := p))
  have EGW := Lib.hid (enters_of Tryz.func106 (by kernel_rfl) rfl)
  have EGO := Lib.hid (enters_of Tryz.func121 (by kernel_rfl) rfl)
  have hPl : ∀ x y, x < m → y < m → P (x * m + y) < m := fun x y hx hy => hr.tp.lt hx hy
  have HPl := Lib.hid hPl
  clear hW k0 k1 k2 b0 hr hPl
  refine (callsIn_wide (n := 6)).1 ?_
  refine callsIn_of_wp_marks Tryz.func41 rfl trivial ?_ rfl
  simp only [Tryz.ntmps41, List.size_toArray, List.length_cons, List.length_nil, Nat.reduceAdd, Nat.reduceSub, Array.replicate_succ, Array.replicate_zero, List.push_toArray, List.append_toArray, List.nil_append, List.cons_append]
  gi_wp2_with (first
    | (refine wpListIn_load_rowW rfl 50 (.tmp 3) rfl (s + 1) rfl _ (setP p) (0, 0) _ (by rw [HW.out]; exact K1.out) Tryz.underlying50 rfl hip ?_; rw [HW.out])
    | (refine ⟨trivial, ?_⟩; gi_at_call 92; refine (callsIn_wide.2 (outside_any p m e _ _ la ca lb cb W)).mono ?_; rintro e1 w1 ⟨Br, Bp, Bs, rfl, hr1, hr2, hr3, hB1, hB2, hB3, hb1⟩; clear c0 c1 c2 c3))
  have s1 := hb1.size
  have r1 := hB1.lt
  have r2 := hB2.lt
  have r3 := hB3.lt
  have K0 := Lib.hid (K0.out.next hb1)
  have K1 := Lib.hid (K1.out.next hb1)
  have K2 := Lib.hid (K2.out.next hb1)
  have B1 := Lib.hid (B0.out.trans (hb1.mono (by omega)))
  have SQ := Lib.hid (where2_Bn 5 w1.heap.size m _ (fun i => !p i) _ _ w1 (by decide) hm' EGO.out hB1 rfl hB2 (Nat.le_refl _) (fun a ha V hV => outside1_any Bs a p V (hB3.next hV) (by omega)))
  clear hb1 hB1 hB2 hB3
  refine wpIn_rangeFunc_ownH rfl (by omega) (gf := 106) (lb := #[.pointer (some ⟨Br, 0, none⟩), .pointer (some ⟨Bp, 0, none⟩)]) rfl trivial EGW.out SQ.out belowK_t (belowK_b (Nat.le_refl _)) (Below.refl _ _) (fun _ => rfl)
    (fun pre V => (PrTo m P p (finN pre) ∧ Blk V s 25 #[.int .i64 m, .int .i64 e, .slice (some ⟨b1, o1, none⟩) la ca, .slice (some ⟨b2, o2, none⟩) lb cb] ∧ Blk V (s + 1) 50 (setP p) ∧ Blk V (s + 2) 4 #[.bool false]) ∧ Below s w V ∧ w1.heap.size ≤ V.heap.size)
    (fun c pre V => (c = .ret ∧ (∃ x ∈ finN pre, ∃ y, y < m ∧ p y = false ∧ p (P (x * m + y)) = true) ∧ Blk V (s + 2) 4 #[.bool false]) ∧ Below s w V)
    (OwnFrom.and (OwnFrom.and (ownFrom_pure _ _) (OwnFrom.and (ownFrom_blk _ _ _ (fun _ => _)) (OwnFrom.and (ownFrom_blk _ _ _ (fun _ => _)) (ownFrom_blk _ _ _ (fun _ => _))))) (OwnFrom.and (ownFrom_below (by omega) (by omega)) (fun _ _ _ _ hs hg _ => Nat.le_trans hs hg.size)))
    (fun c => OwnFrom.and (OwnFrom.and (ownFrom_pure _ _) (OwnFrom.and (ownFrom_pure _ _) (ownFrom_blk _ _ _ (fun _ => _)))) (ownFrom_below (by omega) (by omega)))
    ⟨⟨fun x hx => absurd hx (by simp [finN]), K0.out, K1.out, K2.out⟩, B1.out, Nat.le_refl _⟩
    (fun x a' V => ∃ Bx, w1.heap.size ≤ Bx ∧ Blk V Bx 3 #[.int .i64 (x.1 : Int)] ∧ a' = { tmps := #[.agg #[.int .i64 m, .int .i64 e, .slice (some ⟨b1, o1, none⟩) la ca, .slice (some ⟨b2, o2, none⟩) lb cb], .agg (setP p), .pointer (some ⟨s, 0, none⟩), .pointer (some ⟨s + 1, 0, none⟩), .pointer (some ⟨s + 2, 0, none⟩), .pointer (some ⟨Bx, 0, none⟩), undef, .agg #[.int .i64 m, .int .i64 e, .slice (some ⟨b1, o1, none⟩) la ca, .slice (some ⟨b2, o2, none⟩) lb cb], .agg (setP p), seqV Br Bp, .int .i64 (x.1 : Int), undef, undef, undef, undef, undef, undef, undef, undef, undef, undef], defers := [] })
    (fun x a' _ X Y row hs hg hr => by obtain ⟨Bx, h1, h2, h3⟩ := hs; exact ⟨Bx, h1, ownFrom_blk _ Bx _ (fun (_ : Unit) => _) () X Y row h2 hg hr, h3⟩)
    ?assign ?body ?done ?stop
  case assign =>
    rintro l pre x V K ⟨⟨hpr, h0, h1, h2⟩, hB, hz⟩ hK
    have H0 := Lib.hid h0
    have H1 := Lib.hid h1
    have H2 := Lib.hid h2
    have HB := Lib.hid hB
    have HPR := Lib.hid hpr
    have hsV := hB.size
    clear h0 h1 h2 hB hpr
    gi_wp2
    exact hK _ _ ((KeepsOthers.alloc _ _).from _) ((Below.refl _ V).alloc hz _) ⟨⟨HPR.out, H0.out.alloc _, H1.out.alloc _, H2.out.alloc _⟩, HB.out.alloc (by omega) _, Nat.le_trans hz (by simp)⟩ ⟨V.heap.size, hz, Blk.new V _ _, rfl⟩
  case body =>
    rintro l pre x a' V hl ⟨r, hr⟩ ⟨⟨hpr, h0, h1, h2⟩, hB, hz⟩ ⟨Bx, hBx, hX, rfl⟩ hlt
    have hsV := hB.size
    have H0 := Lib.hid h0
    have H1 := Lib.hid h1
    have H2 := Lib.hid h2
    have HX := Lib.hid hX
    have HB := Lib.hid hB
    have HL := Lib.hid hr
    have HPR := Lib.hid hpr
    have lX := hX.lt
    obtain ⟨c0, c1, c2, c3⟩ := blk4 h0
    clear h0 h1 h2 hB hX hr hpr
    gi_wp2_with (first
      | (refine wpListIn_load_rowR rfl 50 (.tmp 3) rfl (s + 1) rfl _ (setP p) (0, 0) _ H1.out Tryz.underlying50 rfl hip ?_)
      | (refine ⟨trivial, ?_⟩; gi_at_call 92; refine (CallsIn.inRound l (callsIn_wide.2 (outside_any p m e _ _ la ca lb cb V))).mono ?_; rintro e2 V1 ⟨Cr, Cp, Cs, rfl, hq1, hq2, hq3, hC1, hC2, hC3, hb2⟩; clear c0 c1 c2 c3))
    have sV1 := hb2.size
    have G0 := Lib.hid (H0.out.next hb2)
    have G1 := Lib.hid (H1.out.next hb2)
    have G2 := Lib.hid (H2.out.next hb2)
    have GX := Lib.hid (HX.out.next hb2)
    have GL := Lib.hid ((hb2.block l (Array.getElem?_eq_some_iff.1 HL.out).1).trans HL.out)
    have SQ2 := Lib.hid (where2_Bn 3 V1.heap.size m _ (fun i => !p i) _ _ V1 (by decide) hm' EGO.out hC1 rfl hC2 (Nat.le_refl _) (fun a ha V hV => outside1_any Cs a p V (hC3.next hV) (by omega)))
    have HBV := Lib.hid (hb2.mono (show w1.heap.size ≤ V.heap.size from hz))
    have HBs := Lib.hid (HB.out.trans (hb2.mono (show s ≤ V.heap.size by omega)))
    have HKF := Lib.hid (KeepsOthers.of_grownBy (Go.Proofs.YtajoimopahibcaaGreat.Below.grown_ hb2) (fun j o ej _ => by cases ej))
    clear hb2 hC1 hC2 hC3
    refine wpIn_rangeFunc_ownN (l₀ := l) (r₀ := r) rfl GL.out (by decide) (gf := 106) (lb := #[.pointer (some ⟨Cr, 0, none⟩), .pointer (some ⟨Cp, 0, none⟩)]) rfl trivial EGW.out (SQ2.out.inRound l) belowK_t (belowK_b (Nat.le_refl _)) (Below.refl _ _) (fun _ => rfl)
      (fun pre' V' => (PrAt m P p x.1 (finN pre') ∧ Blk V' s 25 #[.int .i64 m, .int .i64 e, .slice (some ⟨b1, o1, none⟩) la ca, .slice (some ⟨b2, o2, none⟩) lb cb] ∧ Blk V' (s + 1) 50 (setP p) ∧ Blk V' (s + 2) 4 #[.bool false] ∧ Blk V' Bx 3 #[.int .i64 (x.1 : Int)]) ∧ (Below s w V' ∧ V1.heap.size ≤ V'.heap.size) ∧ (Below w1.heap.size V V' ∧ KeepsFrom w1.heap.size V V'))
      (fun c pre' V' => (c = .ret ∧ (∃ y ∈ finN pre', p (P (x.1 * m + y)) = true) ∧ Blk V' (s + 2) 4 #[.bool false]) ∧ (Below s w V' ∧ KeepsFrom w1.heap.size V V'))
      (OwnFrom.and (OwnFrom.and (ownFrom_pure _ _) (OwnFrom.and (ownFrom_blk _ _ _ (fun _ => _)) (OwnFrom.and (ownFrom_blk _ _ _ (fun _ => _)) (OwnFrom.and (ownFrom_blk _ _ _ (fun _ => _)) (ownFrom_blk _ _ _ (fun _ => _)))))) (OwnFrom.and (OwnFrom.and (ownFrom_below (by omega) (by omega)) (fun _ _ _ _ hs hg _ => Nat.le_trans hs hg.size)) (OwnFrom.and (ownFrom_below (by omega) (by omega)) (ownFrom_keepsFrom (by omega)))))
      (fun c => OwnFrom.and (OwnFrom.and (ownFrom_pure _ _) (OwnFrom.and (ownFrom_pure _ _) (ownFrom_blk _ _ _ (fun _ => _)))) (OwnFrom.and (ownFrom_below (by omega) (by omega)) (ownFrom_keepsFrom (by omega))))
      ⟨⟨fun y hy => absurd hy (by simp [finN]), G0.out, G1.out, G2.out, GX.out⟩, ⟨HBs.out, Nat.le_refl _⟩, HBV.out, HKF.out.from _⟩
      (fun y a'' _ => a'' = { tmps := #[.agg #[.int .i64 m, .int .i64 e, .slice (some ⟨b1, o1, none⟩) la ca, .slice (some ⟨b2, o2, none⟩) lb cb], .agg (setP p), .pointer (some ⟨s, 0, none⟩), .pointer (some ⟨s + 1, 0, none⟩), .pointer (some ⟨s + 2, 0, none⟩), .pointer (some ⟨Bx, 0, none⟩), .int .i64 (y.1 : Int), .agg #[.int .i64 m, .int .i64 e, .slice (some ⟨b1, o1, none⟩) la ca, .slice (some ⟨b2, o2, none⟩) lb cb], .agg (setP p), seqV Br Bp, .int .i64 (x.1 : Int), .agg #[.int .i64 m, .int .i64 e, .slice (some ⟨b1, o1, none⟩) la ca, .slice (some ⟨b2, o2, none⟩) lb cb], .agg (setP p), seqV Cr Cp, .int .i64 (y.1 : Int), undef, undef, undef, undef, undef, undef], defers := [] })
      (fun _ _ _ _ _ _ hs _ _ => hs)
      ?assign2 ?body2 ?done2 ?stop2
    case assign2 =>
      rintro l2 pre' y V' K hi hK
      have HI := Lib.hid hi
      clear hi
      gi_wp2
      exact hK _ _ (KeepsFrom.refl _ _) (Below.refl _ _) HI.out rfl
    case body2 =>
      rintro l2 pre' y a'' V' _ _ ⟨⟨hpa, h0, h1, h2, hx⟩, ⟨hBs, hz2⟩, hBW, hKF⟩ rfl hlt2
      have J0 := Lib.hid h0
      have J1 := Lib.hid h1
      have J2 := Lib.hid h2
      have JX := Lib.hid hx
      have JB := Lib.hid hBs
      have JW := Lib.hid hBW
      have JK := Lib.hid hKF
      have JP := Lib.hid hpa
      have JR := Lib.hid (HR0.out.next (HS.out ▸ hBs))
      have JI := Lib.hid h1.inC
      have d0 := hx.cell 0
      simp at d0
      obtain ⟨c0, c1, c2, c3⟩ := blk4 h0
      have hlp := HPl.out x.1 y.1 x.2 y.2
      have hsz := hBs.size
      obtain ⟨b, hb⟩ : ∃ b, p (P (x.1 * m + y.1)) = b := ⟨_, rfl⟩
      have HBB := Lib.hid hb
      clear h0 h1 h2 hx hBs hBW hKF hpa hb
      gi_wp2_with (fail)
      refine wpIn_region_extR (by kernel_rfl) (by kernel_rfl) (by kernel_rfl) ?_
      repeat (first
        | (refine wpQuiet_load_row rfl 50 (.tmp 3) rfl (s + 1) rfl _ (setP p) _ JI.out Tryz.underlying50 rfl hip ?_; go_simp)
        | (go_big_quiet_step ((first
            | (go_at_call 93; exact calls_ext (product_any x.1 y.1 m e b1 o1 la ca b2 o2 lb cb S P _ (JR.out.next (ext_below _ _)) x.2 y.2))
            | (go_at_call 65; exact calls_ext (has2_val p _ b _ (by omega) HBB.out))))))
      refine wpQuiet_nil ?_
      intro V2 hb3
      have Q3 := Lib.hid hb3
      have s3 := hb3.size
      clear hb3 c0 c1 c2 c3 d0
      have k3 := J2.out.next Q3.out
      have kc := k3.cell 0
      have kf := k3.frozen 0
      simp at kc
      have KO := Lib.hid (KeepsOthers.of_grownBy (Go.Proofs.YtajoimopahibcaaGreat.Below.grown_ Q3.out) (fun j o ej _ => by cases ej))
      cases b
      · gi_wp2
        refine ⟨KO.out.from _, Q3.out.mono (by omega), ⟨?_, J0.out.next Q3.out, J1.out.next Q3.out, k3, JX.out.next Q3.out⟩, ⟨JB.out.trans (Q3.out.mono (by omega)), by omega⟩, JW.out.trans (Q3.out.mono (by omega)), JK.out.trans (KO.out.from _)⟩
        intro z hz'
        simp only [finN, List.map_append, List.map_cons, List.map_nil, List.mem_append, List.mem_singleton] at hz'
        rcases hz' with h | rfl
        · exact JP.out z h
        · exact HBB.out
      · gi_wp2
        have KO2 := KO.out.trans (KeepsOthers.setCell V2 ⟨s + 2, 0, none⟩ (.bool false))
        refine ⟨KO2.from _, ⟨rfl, ⟨y.1, by simp [finN], HBB.out⟩, ?_⟩, (JB.out.trans (Q3.out.mono (by omega))).setCell (p := ⟨s + 2, 0, none⟩) (by show s ≤ s + 2; omega) _, JK.out.trans (KO2.from _)⟩
        have := k3.set_ 0 (.bool false)
        simpa using this
    case done2 =>
      rintro ys V' rfl ⟨⟨hpa, h0, h1, h2, hx⟩, ⟨hBs, hz2⟩, hBW, hKF⟩
      have JP := Lib.hid hpa
      have J0 := Lib.hid h0
      have J1 := Lib.hid h1
      have J2 := Lib.hid h2
      have JB := Lib.hid hBs
      have JW := Lib.hid hBW
      have JK := Lib.hid hKF
      clear hpa h0 h1 h2 hx hBs hBW hKF
      gi_wp2
      refine ⟨JK.out, JW.out, ⟨?_, J0.out, J1.out, J2.out⟩, JB.out, by omega⟩
      have := prTo_snoc HPR.out JP.out
      simpa [finN] using this
    case stop2 =>
      rintro c pre' V' hpre ⟨⟨rfl, ⟨y, hy, hpy⟩, hb⟩, hBs, hKF⟩
      have J2 := Lib.hid hb
      have JB := Lib.hid hBs
      have JK := Lib.hid hKF
      have HY := Lib.hid (show ∃ x1 ∈ finN (pre ++ [x]), ∃ y, y < m ∧ p y = false ∧ p (P (x1 * m + y)) = true from ⟨x.1, by simp [finN], y, by
        have h1 : y ∈ finN (selTo m (fun i => !p i) m) := by
          simp only [finN, List.mem_map] at hy ⊢
          obtain ⟨z, hz1, hz2⟩ := hy
          exact ⟨z, hpre.subset hz1, hz2⟩
        have := lst_in.1 h1
        exact ⟨this.1, by simpa using this.2, hpy⟩⟩)
      clear hb hBs hKF hpre hy hpy
      gi_wp2
      exact ⟨JK.out, ⟨rfl, HY.out, J2.out⟩, JB.out⟩
  case done =>
    rintro D zs V hD rfl ⟨⟨hpr, h0, h1, h2⟩, hB, hz⟩ hK
    have cR := h2.cell 0
    have fR := h2.frozen 0
    simp at cR
    have HPT := Lib.hid (show prI m P p = true from propB_true hpr)
    have H2 := Lib.hid h2
    have HB := Lib.hid hB
    have HK := Lib.hid hK
    clear hpr h0 h1 h2 hB hK
    gi_wp2
    have hK' := (KeepsOthers.setCell V ⟨s + 2, 0, none⟩ (.bool true)).same D _ HK.out rfl
    have hD2 : s + 2 ≠ D := by omega
    have b5 : Blk (V.setCell ⟨s + 2, 0, none⟩ (.bool true)) (s + 2) 4 #[.bool true] := by
      have := H2.out.set_ 0 (.bool true)
      simpa using this
    have hc5 : ((V.setCell ⟨s + 2, 0, none⟩ (.bool true)).putObj D (.deferred none)).cell? ⟨s + 2, 0, none⟩ = some (.bool true) := by
      have b6 : Blk ((V.setCell ⟨s + 2, 0, none⟩ (.bool true)).putObj D (.deferred none)) (s + 2) 4 #[.bool true] := (World.putObj_heap_other hD2).trans b5
      have := b6.cell 0
      simpa using this
    refine ⟨by simp, .inl ⟨_, _, rfl, run_takeDeferred hK', ?_⟩⟩
    refine ⟨.bool true, ?_, by rw [HPT.out], (HB.out.setCell (p := ⟨s + 2, 0, none⟩) (by show s ≤ s + 2; omega) _).trans (belowK_b (w := w) (by omega) _ D _ _ (by omega) hK' rfl rfl)⟩
    simp [results, Tryz.f41, go_sem, hc5]
  case stop =>
    rintro D c pre V hD hpre ⟨⟨rfl, ⟨x, hx, y, hy, hpy, hpxy⟩, h2⟩, hB⟩ hK
    have HPT := Lib.hid (show prI m P p = false from propB_false fun h => by
      have h1 : x ∈ finN (selTo m (fun i => !p i) m) := by
        simp only [finN, List.mem_map] at hx ⊢
        obtain ⟨z, hz1, hz2⟩ := hx
        exact ⟨z, hpre.subset hz1, hz2⟩
      have := h x h1 y hy hpy
      rw [hpxy] at this
      cases this)
    have H2 := Lib.hid h2
    have HB := Lib.hid hB
    have HK := Lib.hid hK
    clear h2 hB hK hpre hx hy hpy hpxy
    gi_wp2
    have hD2 : s + 2 ≠ D := by omega
    have hc5 : (V.putObj D (.deferred none)).cell? ⟨s + 2, 0, none⟩ = some (.bool false) := by
      have b6 : Blk (V.putObj D (.deferred none)) (s + 2) 4 #[.bool false] := (World.putObj_heap_other hD2).trans H2.out
      have := b6.cell 0
      simpa using this
    refine ⟨by simp, .inl ⟨_, _, rfl, run_takeDeferred HK.out, ?_⟩⟩
    refine ⟨.bool false, ?_, by rw [HPT.out], HB.out.trans (belowK_b (w := w) (by omega) V D _ _ (by omega) HK.out rfl rfl)⟩
    simp [results, Tryz.f41, go_sem, hc5]

end Go.Proofs.YtajoimopahibcaaGreat



/- IsPrimeIdeal and IsMaximalIdeal of the program. -/
namespace Go.Proofs.YtajoimopahibcaaGreat
open Go.RowKit Go.Shelf
set_option maxRecDepth 100000
attribute [local go_sem] Oper.semAt_some
attribute [local go_sem ↓] Go.wp_at_zero Go.wp_at_succ

theorem whole_eq {m : Nat} {p : Nat → Bool} (hm' : m ≤ 16) (hp : ∀ i, p i = true → i < m) : propB (∀ i, i < 16 → p i = allE m i) = wholeB m p := by
  rw [Bool.eq_iff_iff, propB_iff, whole_iff]
  constructor
  · intro h x hx
    rw [h x (by omega)]
    exact decide_eq_true hx
  · intro h i _
    by_cases hi : i < m
    · rw [h i hi]; exact (decide_eq_true hi).symm
    · rw [show allE m i = false from decide_eq_false hi]
      cases e : p i
      · rfl
      · exact absurd (hp i e) hi
theorem prI_eq {m : Nat} {P : Nat → Nat} {p : Nat → Bool} : prI m P p = propB (∀ x y, x < m → y < m → p x = false → p y = false → p (P (x * m + y)) = false) := by
  unfold prI
  rw [Bool.eq_iff_iff, propB_iff, propB_iff]
  constructor
  · intro h x y hx hy h1 h2
    exact h x (lst_in.2 ⟨hx, by rw [h1]; rfl⟩) y hy h2
  · intro h x hx y hy h2
    obtain ⟨h3, h4⟩ := lst_in.1 hx
    exact h x y h3 hy (by simpa using h4) h2
theorem pri_no {n o : Int} {X Y L : List Int} (h : isIdB n o X Y L = false) : priB n o X Y L = false := by unfold priB; rw [h]; rfl
theorem pri_whole {m e : Nat} {X Y L : List Int} {p : Nat → Bool} (_ : isIdB m e X Y L = true) (hp : setL L = p) (hw : wholeB m p = true) : priB m e X Y L = false := by
  unfold priB primeB
  rw [Int.toNat_natCast, hp, hw]; simp
theorem pri_yes {m e : Nat} {X Y L : List Int} {p : Nat → Bool} (h : isIdB m e X Y L = true) (hp : setL L = p) (hw : wholeB m p = false) : priB m e X Y L = prI m (tabOf Y) p := by
  unfold priB primeB
  rw [Int.toNat_natCast, hp, hw, h, prI_eq]; simp

set_option maxHeartbeats 8000000 in
theorem pri_any (n o : Int) (A B C : Option Addr) (la ca lb cb len cap : Nat) (X Y L : List Int) (w : World) (hX : Ints w w.heap.size A la X) (hY : Ints w w.heap.size B lb Y) (hL : Ints w w.heap.size C len L) (hla : la ≤ 9223372036854775807) (hlb : lb ≤ 9223372036854775807) (hlen : len ≤ 9223372036854775807) (hca : la ≤ ca) (hcb : lb ≤ cb) :
    Calls Tryz.prog 8 #[.agg #[.int .i64 n, .int .i64 o, .slice A la ca, .slice B lb cb], .slice C len cap] w fun e' w' => e' = .returned (.bool (priB n o X Y L)) ∧ Below w.heap.size w w' := by
  obtain ⟨W, hW⟩ : ∃ W, w.alloc (.cells #[.int .i64 n, .int .i64 o, .slice A la ca, .slice B lb cb] 25) = W := ⟨_, rfl⟩
  have b0 : Below w.heap.size w W := by
    subst hW; exact (Below.refl _ _).alloc (Nat.le_refl _) _
  have k0 : Blk W w.heap.size 25 #[.int .i64 n, .int .i64 o, .slice A la ca, .slice B lb cb] := by
    subst hW; exact Blk.new w _ _
  obtain ⟨c0, c1, c2, c3⟩ := blk4 k0
  obtain ⟨bL, hbL⟩ : ∃ b, isIdB n o X Y L = b := ⟨_, rfl⟩
  obtain ⟨p, hp⟩ : ∃ p, idS n o X Y L = p := ⟨_, rfl⟩
  have HX0 := Lib.hid hX
  have HY0 := Lib.hid hY
  have HL0 := Lib.hid hL
  have B0 := Lib.hid b0
  have HW := Lib.hid hW
  have K0 := Lib.hid k0
  have HBL := Lib.hid hbL
  have HP := Lib.hid hp
  have hs0 := k0.lt
  have hip := set_info (setP_size (p := p))
  have hop := setP_one (p := p)
  have holdp : (#[.bool false, .bool false, .bool false, .bool false, .bool false, .bool false, .bool false, .bool false, .bool false, .bool false, .bool false, .bool false, .bool false, .bool false, .bool false, .bool false] : Array Value).size = (setP p).size := by rw [setP_size]; rfl
  clear hX hY hL b0 hW k0 hp hbL
  go_enter Tryz.func8, Tryz.ntmps8
  go_wp2_with (fail)
  rw [HW.out]
  refine (idealSet_val HP.out HBL.out (HX0.out.next B0.out) (HY0.out.next B0.out) (HL0.out.next B0.out) hla hlb hlen hca hcb).mono ?_
  rintro e1 w1 ⟨rfl, hb1⟩
  have B1 := Lib.hid (below_step B0.out hb1)
  have K1 := Lib.hid (K0.out.next hb1)
  have s1 := hb1.size
  obtain ⟨g1, hg1⟩ : ∃ g1, w1.heap.size = g1 := ⟨_, rfl⟩
  clear hb1 c0 c1 c2 c3
  have KN1 : Blk (w1.alloc (.cells #[.bool false, .bool false, .bool false, .bool false, .bool false, .bool false, .bool false, .bool false, .bool false, .bool false, .bool false, .bool false, .bool false, .bool false, .bool false, .bool false] 50)) g1 50 #[.bool false, .bool false, .bool false, .bool false, .bool false, .bool false, .bool false, .bool false, .bool false, .bool false, .bool false, .bool false, .bool false, .bool false, .bool false, .bool false] := by rw [← hg1]; exact Blk.new _ _ _
  go_upto_region 2 with (refine wpList_store_row rfl 50 (.tmp 5) (.tmp 11) rfl g1 (setP p) rfl rfl _ _ KN1 hip holdp hop ?_)
  obtain ⟨V1, hV1⟩ : ∃ V1, (w1.alloc (.cells #[.bool false, .bool false, .bool false, .bool false, .bool false, .bool false, .bool false, .bool false, .bool false, .bool false, .bool false, .bool false, .bool false, .bool false, .bool false, .bool false] 50)).setRow g1 (setP p) = V1 := ⟨_, rfl⟩
  have bV1 : Below w1.heap.size w1 V1 := by subst hV1 hg1; exact set_row.2
  have kV1 : Blk V1 g1 50 (setP p) := by subst hV1 hg1; exact set_row.1
  rw [hV1]
  have B2 := Lib.hid (below_step B1.out bV1)
  have K2 := Lib.hid (K1.out.next bV1)
  have G1 := Lib.hid kV1
  have s2 := kV1.lt
  obtain ⟨c0, c1, c2, c3⟩ := blk4 K2.out
  clear hV1 bV1 kV1 KN1
  cases bL
  · have hz := Lib.hid (pri_no HBL.out)
    go_simp
    refine wp_region_ext (by kernel_rfl) (by kernel_rfl) ?_
    repeat (go_big_quiet_step (fail))
    refine wpQuiet_nil ?_
    intro w2 hb2
    go_wp2
    go_ret
    exact ⟨ret_bool hz.out.symm, below_step B2.out hb2⟩
  · rw [idS_yes HBL.out] at HP
    obtain ⟨m, e, b1, o1, b2, o2, rfl, rfl, rfl, rfl, hr, _, _, _, _, _⟩ := valid_data (ide_data (isId_ide HBL.out)).1 HX0.out HY0.out hca hcb
    obtain ⟨hv, hpI, _⟩ := isId_data HBL.out
    rw [HP.out] at hpI
    have R := rtab_of_valid hv
    have hm' := hr.hm'
    have HR2 := Lib.hid (hr.next B2.out)
    have HPL := Lib.hid hpI.lt
    have heq : ∀ w, (Op.equalIn 10000 50 (.agg (setP p)) (.agg (setP (allE m)))).run Tryz.prog w = .ok (wholeB m p) w := fun w => (eq_setP w).trans (by rw [whole_eq hm' hpI.lt])
    have JI := Lib.hid G1.out.inC
    have HPI := Lib.hid hpI
    clear hr hv hpI
    cases hw : wholeB m p
    · have hz := Lib.hid (pri_yes HBL.out HP.out hw)
      rw [hw] at heq
      clear hw
      go_simp
      refine wp_region_ext (by kernel_rfl) (by kernel_rfl) ?_
      repeat (first
        | (refine wpQuiet_load_rowG rfl 50 (.tmp 5) rfl g1 rfl _ (setP p) _ JI.out Tryz.underlying50 rfl hip ?_; go_simp)
        | (go_big_quiet_step ((first
            | (go_at_call 40; exact calls_ext (whole_any m e b1 o1 la ca b2 o2 lb cb (tabOf X) (tabOf Y) _ (HR2.out.next (ext_below _ _))))
            | (go_at_call 41; exact calls_ext (isPrime_any p m e b1 o1 la ca b2 o2 lb cb (tabOf X) (tabOf Y) _ (HR2.out.next (ext_below _ _)) HPL.out))))))
      refine wpQuiet_nil ?_
      intro w2 hb2
      go_wp2
      go_ret
      exact ⟨ret_bool hz.out.symm, below_step B2.out hb2⟩
    · have hz := Lib.hid (pri_whole HBL.out HP.out hw)
      rw [hw] at heq
      clear hw
      go_simp
      refine wp_region_ext (by kernel_rfl) (by kernel_rfl) ?_
      repeat (first
        | (refine wpQuiet_load_rowG rfl 50 (.tmp 5) rfl g1 rfl _ (setP p) _ JI.out Tryz.underlying50 rfl hip ?_; go_simp)
        | (go_big_quiet_step ((go_at_call 40; exact calls_ext (whole_any m e b1 o1 la ca b2 o2 lb cb (tabOf X) (tabOf Y) _ (HR2.out.next (ext_below _ _)))))))
      refine wpQuiet_nil ?_
      intro w2 hb2
      go_wp2
      go_ret
      exact ⟨ret_bool hz.out.symm, below_step B2.out hb2⟩

end Go.Proofs.YtajoimopahibcaaGreat



/- IsPrimeIdeal of the reading side. -/
namespace Go.Proofs.YtajoimopahibcaaGreat
open Go.RowKit Go.Shelf
set_option maxRecDepth 100000
theorem idx_two {m a b : Nat} (hb : b < m) : (a * m + b) / m = a ∧ (a * m + b) % m = b := by
  have hm : 0 < m := by omega
  refine ⟨?_, ?_⟩
  · rw [Nat.mul_comm, Nat.mul_add_div hm, Nat.div_eq_of_lt hb, Nat.add_zero]
  · rw [Nat.mul_comm, Nat.mul_add_mod, Nat.mod_eq_of_lt hb]

end Go.Proofs.YtajoimopahibcaaGreat



/- GeneratorOf of both sides. -/
namespace Go.Proofs.YtajoimopahibcaaGreat
open Go.RowKit Go.Shelf
set_option maxRecDepth 100000
attribute [local go_sem ↓] Go.wp_at_zero Go.wp_at_succ

section
variable {m : Nat} {P : Nat → Nat} {p : Nat → Bool}
end

theorem ints_blk1 {m g : Nat} {x : Fin m} {w : World} (h : Blk w g 3 #[.int .i64 (x.1 : Int)]) : Ints w w.heap.size (some ⟨g, 0, none⟩) 1 (finI [x]) :=
  ⟨rfl, fun _ => ⟨g, 0, rfl, h.lt, fun k z hz => by
    have hk : k = 0 := by
      rcases Nat.eq_zero_or_pos k with h1 | h1
      · exact h1
      · rw [List.getElem?_eq_none (by simp [finI]; omega)] at hz; cases hz
    subst hk
    simp [finI] at hz
    subst hz
    have := h.cell 0
    simpa using this⟩⟩
theorem one_lt {m : Nat} (x : Fin m) : ∀ i, memB (finN [x]) i = true → i < m := fun i h => by
  have := memB_iff.1 h
  simp [finN] at this
  have := x.2
  omega
end Go.Proofs.YtajoimopahibcaaGreat



/- ProductIdeal of the reading side. -/
namespace Go.Proofs.YtajoimopahibcaaGreat
open Go.RowKit Go.Shelf
set_option maxRecDepth 100000

end Go.Proofs.YtajoimopahibcaaGreat



/- IsMaximalIdeal of the program. -/
namespace Go.Proofs.YtajoimopahibcaaGreat
open Go.RowKit Go.Shelf
set_option maxRecDepth 100000
attribute [local go_sem] Oper.semAt_some
attribute [local go_sem ↓] Go.wp_at_zero Go.wp_at_succ

end Go.Proofs.YtajoimopahibcaaGreat



/- The sum of two ideals as the reading side makes it: two appends in a region that draws its order. -/
namespace Go.Proofs.YtajoimopahibcaaGreat
open Go.RowKit Go.Shelf
set_option maxRecDepth 100000

def smV (l : List Int) : List Value := l.map (.int .i64)
/-- A row of the call's own that begins with these numbers. -/
def Sm (D : Nat) (Z : List Int) (v : Value) (w : World) : Prop :=
  ∃ g cap, v = .slice (some ⟨g, 0, none⟩) Z.length cap ∧ D ≤ g ∧ g < w.heap.size ∧ Z.length ≤ cap ∧
    (∀ j, j < cap → (w.cell? ⟨g, j, none⟩).isSome = true ∧ w.frozen? ⟨g, j, none⟩ = false) ∧ (∀ (j : Nat) (y : Int), Z[j]? = some y → w.cell? ⟨g, j, none⟩ = some (.int .i64 y))
theorem Sm.next {D : Nat} {Z : List Int} {v : Value} {w w' : World} (h : Sm D Z v w) (hb : Below w.heap.size w w') : Sm D Z v w' := by
  obtain ⟨g, cap, e, h1, h2, h3, h4, h5⟩ := h
  refine ⟨g, cap, e, h1, Nat.lt_of_lt_of_le h2 hb.size, h3, fun j hj => ?_, fun j y hy => ?_⟩
  · rw [hb.cell (p := ⟨g, j, none⟩) h2, hb.frozen (p := ⟨g, j, none⟩) h2]; exact h4 j hj
  · rw [hb.cell (p := ⟨g, j, none⟩) h2]; exact h5 j y hy
theorem Sm.of_owns {w : World} {D B : Nat} {v : Value} {Z : List Int} (h : w.ownsRow B 3 1 v Z.length (smV Z)) (hB : D ≤ B) (hn : 1 ≤ Z.length) : Sm D Z v w := by
  rcases h.2 with ⟨_, h0⟩ | ⟨g, cap, cur, rfl, hg, hb, hc, _, hs, ht⟩
  · omega
  · have hb' : Blk w g 3 cur := hb
    refine ⟨g, cap, rfl, Nat.le_trans hB hg, hb'.lt, hc, fun j hj => ⟨?_, hb'.frozen j⟩, fun j y hy => ?_⟩
    · rw [hb'.cell j, Array.getElem?_eq_getElem (by omega)]; rfl
    · have hj : j < Z.length := (List.getElem?_eq_some_iff.1 hy).1
      rw [hb'.cell j]
      have e1 : cur.toList[j]? = (smV Z)[j]? := by rw [← ht, List.getElem?_take]; simp; omega
      rw [← Array.getElem?_toList, e1]
      simp [smV, hy]
theorem Sm.ints_at {D g l c : Nat} {Z : List Int} {w : World} (h : Sm D Z (.slice (some ⟨g, 0, none⟩) l c) w) : Ints w w.heap.size (some ⟨g, 0, none⟩) l Z := by
  obtain ⟨g', cap, e, _, h2, _, _, h5⟩ := h
  simp only [Value.slice.injEq, Option.some.injEq, Addr.mk.injEq, and_true] at e
  obtain ⟨rfl, rfl, rfl⟩ := e
  exact ⟨rfl, fun _ => ⟨g, 0, rfl, h2, fun k x hx => by rw [Nat.zero_add]; exact h5 k x hx⟩⟩
theorem Below.setCells_ {B g : Nat} : ∀ (vs : List Value) (o : Nat) {a w : World}, Below B a w → B ≤ g → Below B a (w.setCells g o vs)
  | [], _, _, _, h, _ => h
  | v :: r, o, _, _, h, hg => Below.setCells_ r (o + 1) (h.setCell (p := ⟨g, o, none⟩) hg v) hg
theorem Sm.write {D g : Nat} {L K Z : List Int} {v : Value} {w : World} (hZ : ∀ (j : Nat) (y : Int), Z[j]? = some y → j < L.length ∨ ∃ i, j = L.length + i ∧ K[i]? = some y)
    (hr : ∀ j, j < K.length → (w.cell? ⟨g, L.length + j, none⟩).isSome = true) (h : Sm D Z v w) : Sm D Z v (w.setCells g L.length (smV K)) := by
  obtain ⟨g', cap, e, h1, h2, h3, h4, h5⟩ := h
  refine ⟨g', cap, e, h1, Nat.lt_of_lt_of_le h2 (Below.setCells_ (B := 0) (g := g) (smV K) L.length (Below.refl 0 w) (Nat.zero_le _)).size, h3, fun j hj => ⟨World.isSome_setCells _ _ _ _ _ (h4 j hj).1, by rw [World.frozen?_setCells]; exact (h4 j hj).2⟩, fun j y hy => ?_⟩
  by_cases eg : g' = g
  · subst eg
    rcases hZ j y hy with hl | ⟨i, rfl, hi⟩
    · rw [World.cell?_setCells_out _ _ _ _ _ (fun _ _ => Or.inl hl)]; exact h5 j y hy
    · have hi' : i < K.length := (List.getElem?_eq_some_iff.1 hi).1
      have hl : i < (smV K).length := by simp [smV, hi']
      have := World.cell?_setCells_in g' (smV K) L.length w (fun j hj => hr j (by simpa [smV] using hj)) i hl
      rw [this, ← List.getElem?_eq_getElem hl]
      simp [smV, hi]
  · rw [World.cell?_setCells_out _ _ _ _ _ (fun hb _ => absurd hb eg)]; exact h5 j y hy

def SmR (D : Nat) (L Z : List Int) (w w' : World) : Prop := Below D w w' ∧ (∀ v, Sm D L v w → Sm D L v w') ∧ (∀ v, Sm D Z v w → Sm D Z v w')
section
variable {D : Nat} {L Z : List Int}
theorem SmR.refl (w : World) : SmR D L Z w w := ⟨Below.refl _ _, fun _ h => h, fun _ h => h⟩
theorem SmR.trans (a b c : World) (h : SmR D L Z a b) (h' : SmR D L Z b c) : SmR D L Z a c := ⟨h.1.trans h'.1, fun v hv => h'.2.1 v (h.2.1 v hv), fun v hv => h'.2.2 v (h.2.2 v hv)⟩
theorem SmR.of_below {w w' : World} (hb : Below w.heap.size w w') (hD : D ≤ w.heap.size) : SmR D L Z w w' := ⟨hb.mono hD, fun _ h => h.next hb, fun _ h => h.next hb⟩
theorem SmR.drew (w : World) (hD : D ≤ w.heap.size) : SmR D L Z w w.drew := SmR.of_below (Below.refl _ _).drew hD
end
theorem append_at {L K : List Int} {j : Nat} {y : Int} (h : (L ++ K)[j]? = some y) : j < L.length ∨ ∃ i, j = L.length + i ∧ K[i]? = some y := by
  rcases Nat.lt_or_ge j L.length with hl | hl
  · exact .inl hl
  · rw [List.getElem?_append_right hl] at h
    exact .inr ⟨j - L.length, by omega, h⟩
theorem SmR.write {D g : Nat} {L K : List Int} {w : World} (hD : D ≤ g) (hr : ∀ j, j < K.length → (w.cell? ⟨g, L.length + j, none⟩).isSome = true) : SmR D L (L ++ K) w (w.setCells g L.length (smV K)) :=
  ⟨Below.setCells_ _ _ (Below.refl _ _) hD, fun _ h => h.write (fun _ _ hy => .inl (List.getElem?_eq_some_iff.1 hy).1) hr, fun _ h => h.write (fun _ _ hy => append_at hy) hr⟩

theorem ints_src {w : World} {ab off : Nat} {K : List Int} (hc : ∀ (k : Nat) (x : Int), K[k]? = some x → w.cell? ⟨ab, off + k, none⟩ = some (.int .i64 x)) :
    ∀ (j : Nat) (u : Value), (smV K)[j]? = some u → w.cell? ((⟨ab, off, none⟩ : Addr).add j) = some u := fun j u hu => by
  unfold smV at hu
  rw [List.getElem?_map] at hu
  cases hj : K[j]? with
  | none => rw [hj] at hu; cases hu
  | some y =>
    rw [hj] at hu
    have := hc j y hj
    simp only [Option.map_some, Option.some.injEq] at hu
    rw [← hu]
    have e : (⟨ab, off, none⟩ : Addr).add j = ⟨ab, off + j, none⟩ := by simp [Addr.add]
    rw [e]
    exact this
/-- A copy of a row of ints, behind an empty one. -/
theorem makes_sm1 {o : Oper} {a : Act} (s x : Operand) (hop : o.op = .call { callee := .builtin .append, args := #[s, x], argTypes := #[23, 23] }) (D b n c : Nat) (A : Option Addr) (L Z : List Int) (w : World)
    (hs : a.eval s = .slice (some ⟨b, 0, none⟩) 0 0) (hx : a.eval x = .slice A n c) (hX : Ints w w.heap.size A n L) (hn : 1 ≤ n) (hn' : n ≤ 1000) (hD : D ≤ w.heap.size) :
    makesAtR Tryz.prog (SmR D L Z) (fun _ => True) o a w fun v w' => Sm D L v w' := by
  obtain ⟨i0, hi, hz0, hz1, hz2⟩ := info_parts int_info
  obtain ⟨ab, off, rfl, hab, hc⟩ := hX.2 (by omega)
  obtain ⟨v', w', hr, ho, hg⟩ := run_append_arg_grows (P := Tryz.prog) w 23 o.type 3 i0 (.int .i64 0) 1 8 Tryz.underlying23 hi hz0 hz1 hz2 rfl (by omega) ⟨b, 0, none⟩ 0 0 [] rfl (by simp) ⟨ab, off, none⟩ n c (smV L)
    (by simp [smV, hX.1]) (ints_src hc) (by omega) (by unfold maxLen; omega) (by omega)
  rw [Nat.zero_add, List.nil_append, ← hX.1] at ho
  unfold makesAtR execOp
  simp only [hop, resolve, invoke, builtin, Sem.run_bind, Sem.run_pure, Result.andThen_ok, List.map_toArray, List.map_cons, List.map_nil, hs, hx, hr, makesUponR]
  exact ⟨SmR.of_below ⟨hg.os, hg.tape, hg.output, hg.size, fun k hk => hg.block k hk (by simp)⟩ hD, trivial, Sm.of_owns ho hD (by rw [hX.1]; exact hn)⟩
/-- A row of ints behind one of the call's own. -/
theorem makes_sm2 {o : Oper} {a : Act} (s x : Operand) (hop : o.op = .call { callee := .builtin .append, args := #[s, x], argTypes := #[23, 23] }) (D n c : Nat) (A : Option Addr) (L K : List Int) (v : Value) (w : World)
    (hs : a.eval s = v) (hv : Sm D L v w) (hx : a.eval x = .slice A n c) (hX : Ints w w.heap.size A n K) (hn : 1 ≤ n) (hn' : n ≤ 1000) (hl : L.length ≤ 1000) (hD : D ≤ w.heap.size) :
    makesAtR Tryz.prog (SmR D L (L ++ K)) (fun _ => True) o a w fun v w' => Sm D (L ++ K) v w' := by
  obtain ⟨i0, hi, hz0, hz1, hz2⟩ := info_parts int_info
  obtain ⟨ab, off, rfl, hab, hc⟩ := hX.2 (by omega)
  have hv0 := hv
  obtain ⟨g, cap, rfl, h1, h2, h3, h4, h5⟩ := hv
  have hK : K.length = n := hX.1
  have hK' : (smV K).length = n := by simp [smV, hK]
  by_cases hr : L.length + n ≤ cap
  · have hrm : ∀ j, j < K.length → (w.cell? ⟨g, L.length + j, none⟩).isSome = true := fun j hj => (h4 _ (by omega)).1
    have hrun := run_append_room_cells (P := Tryz.prog) w 23 o.type 3 i0 Tryz.underlying23 hi g 0 L.length cap ⟨ab, off, none⟩ n c (smV K) (by rw [hz1, hK']; omega) (ints_src hc) (ints_oneCell .i64 K) hr
      (fun j hj => by rw [hz1, Nat.zero_add, Nat.mul_one]; exact hrm j (by omega)) (fun j hj => by rw [hz1, Nat.zero_add, Nat.mul_one]; exact (h4 _ (by omega)).2)
    rw [hz1, Nat.zero_add, Nat.mul_one] at hrun
    have hw := SmR.write (L := L) h1 hrm
    unfold makesAtR execOp
    simp only [hop, resolve, invoke, builtin, Sem.run_bind, Sem.run_pure, Result.andThen_ok, List.map_toArray, List.map_cons, List.map_nil, hs, hx, hrun, makesUponR]
    refine ⟨hw, trivial, ?_⟩
    have h6 := hw.2.1 _ hv0
    obtain ⟨g', cap', e, _, q2, _, q4, q5⟩ := h6
    simp only [Value.slice.injEq, Option.some.injEq, Addr.mk.injEq, and_true, true_and] at e
    obtain ⟨rfl, rfl⟩ := e
    refine ⟨g, cap, by rw [List.length_append, hK], h1, q2, by rw [List.length_append, hK]; exact hr, q4, fun j y hy => ?_⟩
    rcases append_at hy with hl | ⟨i, rfl, hi⟩
    · rw [List.getElem?_append_left hl] at hy; exact q5 j y hy
    · have hi' : i < K.length := (List.getElem?_eq_some_iff.1 hi).1
      have hl : i < (smV K).length := by simp [smV, hi']
      have := World.cell?_setCells_in g (smV K) L.length w (fun j hj => hrm j (by simpa [smV] using hj)) i hl
      rw [this, ← List.getElem?_eq_getElem hl]
      simp [smV, hi]
  · obtain ⟨v', w', hrun, ho, hg⟩ := run_append_arg_grows (P := Tryz.prog) w 23 o.type 3 i0 (.int .i64 0) 1 8 Tryz.underlying23 hi hz0 hz1 hz2 rfl (by omega) ⟨g, 0, none⟩ L.length cap (smV L) (by simp [smV]) (ints_src (fun k x hx => by rw [Nat.zero_add]; exact h5 k x hx)) ⟨ab, off, none⟩ n c (smV K)
      (by rw [hK']; omega) (ints_src hc) (by omega) (by unfold maxLen; omega) (by omega)
    rw [show smV L ++ smV K = smV (L ++ K) by simp [smV], show L.length + n = (L ++ K).length by rw [List.length_append, hK]] at ho
    unfold makesAtR execOp
    simp only [hop, resolve, invoke, builtin, Sem.run_bind, Sem.run_pure, Result.andThen_ok, List.map_toArray, List.map_cons, List.map_nil, hs, hx, hrun, makesUponR]
    exact ⟨SmR.of_below ⟨hg.os, hg.tape, hg.output, hg.size, fun k hk => hg.block k hk (by simp)⟩ hD, trivial, Sm.of_owns ho hD (by rw [List.length_append, hK]; omega)⟩

def smMk (i : Nat) : Bool := i == 1 || i == 3 || i == 5 || i == 6 || i == 7
structure SmPhi (D : Nat) (L Z : List Int) (U T : Array Value) (i : Nat) (v : Value) (w : World) : Prop where
  p1 : i = 1 → ∃ g, v = .slice (some ⟨g, 0, none⟩) 0 0
  p3 : i = 3 → Sm D L v w
  p5 : i = 5 → Sm D Z v w
  p6 : i = 6 → v = .agg U
  p7 : i = 7 → v = .agg T
structure SmSh (l z : Nat) (U T : Array Value) (i : Nat) (v : Value) : Prop where
  p1 : i = 1 → ∃ g, v = .slice (some ⟨g, 0, none⟩) 0 0
  p3 : i = 3 → ∃ g c, v = .slice (some ⟨g, 0, none⟩) l c
  p5 : i = 5 → ∃ g c, v = .slice (some ⟨g, 0, none⟩) z c
  p6 : i = 6 → v = .agg U
  p7 : i = 7 → v = .agg T
theorem SmPhi_stable {D : Nat} {L Z : List Int} {U T : Array Value} (i : Nat) (v : Value) (w w' : World) (h : SmPhi D L Z U T i v w) (hr : SmR D L Z w w') : SmPhi D L Z U T i v w' := ⟨h.p1, fun e => hr.2.1 v (h.p3 e), fun e => hr.2.2 v (h.p5 e), h.p6, h.p7⟩
theorem SmSh_of {D : Nat} {L Z : List Int} {U T : Array Value} (i : Nat) (v : Value) (w : World) (h : SmPhi D L Z U T i v w) : SmSh L.length Z.length U T i v :=
  ⟨h.p1, fun e => by obtain ⟨g, c, h1, _⟩ := h.p3 e; exact ⟨g, c, h1⟩, fun e => by obtain ⟨g, c, h1, _⟩ := h.p5 e; exact ⟨g, c, h1⟩, h.p6, h.p7⟩
def sm0 (l z : Nat) (U T : Array Value) (i : Nat) : Value := if i = 1 then .slice (some ⟨0, 0, none⟩) 0 0 else if i = 3 then .slice (some ⟨0, 0, none⟩) l 0 else if i = 5 then .slice (some ⟨0, 0, none⟩) z 0 else if i = 6 then .agg U else .agg T
theorem SmSh_zero {l z : Nat} {U T : Array Value} (i : Nat) : SmSh l z U T i (sm0 l z U T i) := ⟨fun e => by subst e; exact ⟨0, rfl⟩, fun e => by subst e; exact ⟨0, 0, rfl⟩, fun e => by subst e; exact ⟨0, 0, rfl⟩, fun e => by subst e; rfl, fun e => by subst e; rfl⟩

end Go.Proofs.YtajoimopahibcaaGreat



/- l4Sum and SumIdeal of the reading side. -/
namespace Go.Proofs.YtajoimopahibcaaGreat
open Go.RowKit Go.Shelf
set_option maxRecDepth 100000

theorem memB_app {l k : List Nat} : memB (l ++ k) = fun i => memB l i || memB k i := funext fun i => by simp [memB]
theorem finN_app {m : Nat} {l k : List (Fin m)} : finN (l ++ k) = finN l ++ finN k := by simp [finN]
theorem finI_app {m : Nat} {l k : List (Fin m)} : finI (l ++ k) = finI l ++ finI k := by simp [finI]
theorem sel_pos {m : Nat} {p : Nat → Bool} (hz : p 0 = true) (hm : 1 ≤ m) : 1 ≤ (selTo m p m).length := by
  have h : 0 ∈ finN (selTo m p m) := lst_in.2 ⟨hm, hz⟩
  have h2 := List.length_pos_of_mem h
  have h3 : (finN (selTo m p m)).length = (selTo m p m).length := by simp [finN]
  omega

theorem makesR_mono {P : Program} {R : World → World → Prop} {J : World → Prop} {o : Oper} {a : Act} {w : World} {F F' : Value → World → Prop} (h : makesAtR P R J o a w F) (hF : ∀ v w', F v w' → F' v w') : makesAtR P R J o a w F' := by
  unfold makesAtR at *
  generalize (execOp a.eval o).run P w = r at *
  cases r with
  | ok n w' =>
    cases n <;> simp only [makesUponR] at h ⊢
    case value u => exact ⟨h.1, h.2.1, hF _ _ h.2.2⟩
    case skip => exact ⟨h.1, h.2.1, hF _ _ h.2.2⟩
    case enter f args => exact ⟨h.1, h.2.mono fun e w'' ⟨u, h1, h2, h3, h4⟩ => ⟨u, h1, h2, h3, hF _ _ h4⟩⟩
  | halt x w' => simp only [makesUponR] at h

set_option maxHeartbeats 8000000 in
theorem l4Sum_any (C C' : Option Addr) (len len' cap cap' : Nat) (m e b1 o1 la ca b2 o2 lb cb : Nat) (S P : Nat → Nat) (w : World) (hr : RingAt w m e b1 o1 la ca b2 o2 lb cb S P) (LF LF' : List (Fin m)) (R : RTab m S P e) (hL : Ints w w.heap.size C len (finI LF)) (hK : Ints w w.heap.size C' len' (finI LF')) (h1 : 1 ≤ len) (h1' : 1 ≤ len') (hb : len ≤ 1000) (hb' : len' ≤ 1000) :
    Calls Tryz.prog 47 #[.agg #[.int .i64 m, .int .i64 e, .slice (some ⟨b1, o1, none⟩) la ca, .slice (some ⟨b2, o2, none⟩) lb cb], .slice C len cap, .slice C' len' cap'] w fun e' w' => ∃ v, e' = .returned v ∧ SliceOut w.heap.size w' v (lstP m (genB m S P (memB (finN (LF ++ LF'))))) ∧ Below w.heap.size w w' := by
  obtain ⟨W, hW⟩ : ∃ W, w.alloc (.cells #[.int .i64 m, .int .i64 e, .slice (some ⟨b1, o1, none⟩) la ca, .slice (some ⟨b2, o2, none⟩) lb cb] 25) = W := ⟨_, rfl⟩
  have b0 : Below w.heap.size w W := by
    subst hW; exact (Below.refl _ _).alloc (Nat.le_refl _) _
  have k0 : Blk W w.heap.size 25 #[.int .i64 m, .int .i64 e, .slice (some ⟨b1, o1, none⟩) la ca, .slice (some ⟨b2, o2, none⟩) lb cb] := by
    subst hW; exact Blk.new w _ _
  have HR0 := Lib.hid hr
  have HL := Lib.hid hL
  have HK := Lib.hid hK
  have B0 := Lib.hid b0
  have HW := Lib.hid hW
  have K0 := Lib.hid k0
  have hs0 := k0.lt
  have hm' := hr.hm'
  obtain ⟨U, hU⟩ : ∃ U, setP (memB (finN (LF ++ LF'))) = U := ⟨_, rfl⟩
  obtain ⟨T, hT⟩ : ∃ T, setP (genB m S P (memB (finN (LF ++ LF')))) = T := ⟨_, rfl⟩
  have HU := Lib.hid hU
  have HT := Lib.hid hT
  have hl1 : (finI LF).length = len := hL.1
  have hl2 : (finI LF ++ finI LF').length = len + len' := by rw [List.length_append, hl1, hK.1]
  have HL1 := Lib.hid hl1
  have HL2 := Lib.hid hl2
  have hpl : ∀ i, memB (finN (LF ++ LF')) i = true → i < m := fun i hi => by
    have := memB_iff.1 hi
    simp only [finN, List.mem_map] at this
    obtain ⟨z, _, rfl⟩ := this
    exact z.2
  clear hr hL hK b0 hW k0 hU hT hl1 hl2
  go_enter Tryz.func47, Tryz.ntmps47
  go_wp2_with (fail)
  rw [HW.out]
  refine wp_region_makersR (SmR W.heap.size (finI LF) (finI LF ++ finI LF')) (fun _ _ => True) 8 smMk (SmPhi W.heap.size (finI LF) (finI LF ++ finI LF') U T) (SmSh len (len + len') U T) (sm0 len (len + len') U T) probe (by kernel_rfl) (by kernel_rfl)
    SmR.refl SmR.trans (fun _ _ _ => trivial) (SmR.drew _ (Nat.le_refl _)) trivial SmPhi_stable (fun i v x _ h => by have := SmSh_of i v x h; rwa [HL1.out, HL2.out] at this) (fun i _ => SmSh_zero i) ?_
  intro V hV vs hvs
  obtain ⟨g1, e1⟩ := (hvs 1 rfl).p1 rfl
  obtain ⟨g3, c3, e3⟩ := (hvs 3 rfl).p3 rfl
  obtain ⟨g5, c5, e5⟩ := (hvs 5 rfl).p5 rfl
  have e6 := (hvs 6 rfl).p6 rfl
  have e7 := (hvs 7 rfl).p7 rfl
  have cW : ∃ x, extCR (SmR W.heap.size (finI LF) (finI LF ++ finI LF')) V x := ⟨V, extCR_of (SmR.refl V)⟩
  have KD := Lib.hid (show ∀ x, extCR (SmR W.heap.size (finI LF) (finI LF ++ finI LF')) V x → Below W.heap.size W x from fun x ⟨u, hu⟩ => by rw [hu]; exact hV.1.trans u.rel.1)
  have KX := Lib.hid (show ∀ x, extCR (SmR W.heap.size (finI LF) (finI LF ++ finI LF')) V x → Below w.heap.size w x from fun x hx => below_step B0.out (KD.out x hx))
  have KB := Lib.hid (show ∀ u : ExtR (SmR W.heap.size (finI LF) (finI LF ++ finI LF')) V, Blk (extR (SmR W.heap.size (finI LF) (finI LF ++ finI LF')) V u) w.heap.size 25 #[.int .i64 m, .int .i64 e, .slice (some ⟨b1, o1, none⟩) la ca, .slice (some ⟨b2, o2, none⟩) lb cb] from fun u => K0.out.next (KD.out _ ⟨u, rfl⟩))
  have f0 := fun u => (KB.out u).cell 0
  have f1 := fun u => (KB.out u).cell 1
  have f2 := fun u => (KB.out u).cell 2
  have f3 := fun u => (KB.out u).cell 3
  simp at f0 f1 f2 f3
  clear hV
  simp only [List.take_succ_cons, List.take_zero, List.drop_succ_cons, List.drop_zero]
  refine wpV_quietR cW 1 0 _ _ (by decide) (by decide) (fun o ho => plain_noEnter (List.all_eq_true.1 (by rfl) o ho)) ?_
  simp only [List.take_succ_cons, List.take_zero, List.drop_succ_cons, List.drop_zero]
  refine wpQuiet_load_row rfl 25 (.tmp 3) rfl w.heap.size rfl _ #[.int .i64 m, .int .i64 e, .slice (some ⟨b1, o1, none⟩) la ca, .slice (some ⟨b2, o2, none⟩) lb cb] _ (fun x ⟨u, hu⟩ => by rw [hu]; exact KB.out u) Tryz.underlying25 rfl (by kernel_rfl) ?_
  go_simp
  refine wpQuiet_nil ?_
  refine wpV_make_R rfl rfl (fun x fu hx _ _ => ?_) ?_
  · unfold makesAtR
    go_simp
    exact ⟨SmR.of_below ((Below.refl _ _).alloc (Nat.le_refl _) _) (KD.out x hx).size, trivial, ⟨fun _ => ⟨_, rfl⟩, fun e => absurd e (by decide), fun e => absurd e (by decide), fun e => absurd e (by decide), fun e => absurd e (by decide)⟩⟩
  rw [e1]
  go_simp
  refine wpV_quietR cW 1 _ _ _ (by decide) (by decide) (fun o ho => plain_noEnter (List.all_eq_true.1 (by rfl) o ho)) ?_
  simp only [List.take_succ_cons, List.take_zero, List.drop_succ_cons, List.drop_zero]
  repeat (go_big_quiet_step (fail))
  refine wpQuiet_nil ?_
  refine wpV_make_R rfl rfl (fun x fu hx _ _ => ?_) ?_
  · exact makesR_mono (makes_sm1 (.tmp 8) (.tmp 9) rfl W.heap.size g1 len cap C (finI LF) (finI LF ++ finI LF') x rfl rfl (HL.out.next (KX.out x hx)) h1 hb (KD.out x hx).size) fun v x' h => ⟨fun e => absurd e (by decide), fun _ => h, fun e => absurd e (by decide), fun e => absurd e (by decide), fun e => absurd e (by decide)⟩
  rw [e3]
  go_simp
  refine wpV_quietR cW 1 _ _ _ (by decide) (by decide) (fun o ho => plain_noEnter (List.all_eq_true.1 (by rfl) o ho)) ?_
  simp only [List.take_succ_cons, List.take_zero, List.drop_succ_cons, List.drop_zero]
  repeat (go_big_quiet_step (fail))
  refine wpQuiet_nil ?_
  refine wpV_make_R rfl rfl (fun x fu hx _ hd => ?_) ?_
  · have hv := (hd ⟨3, .data⟩ (by simp) rfl rfl).p3 rfl
    rw [e3] at hv
    exact makesR_mono (makes_sm2 (.tmp 10) (.tmp 11) rfl W.heap.size len' cap' C' (finI LF) (finI LF') _ x rfl hv rfl (HK.out.next (KX.out x hx)) h1' hb' (by rw [HL1.out]; exact hb) (KD.out x hx).size) fun v x' h => ⟨fun e => absurd e (by decide), fun e => absurd e (by decide), fun _ => h, fun e => absurd e (by decide), fun e => absurd e (by decide)⟩
  rw [e5]
  go_simp
  refine wpV_make_R rfl rfl (fun x fu hx _ hd => ?_) ?_
  · have hv := (hd ⟨5, .data⟩ (by simp) rfl rfl).p5 rfl
    rw [e5] at hv
    have hI := hv.ints_at
    unfold makesAtR
    go_simp
    rw [← finI_app] at hI
    refine ⟨rfl, (l4Of_any m (some ⟨g5, 0, none⟩) (len + len') c5 (LF ++ LF') x hm' hI (by omega)).mono ?_⟩
    rintro _ x' ⟨rfl, hb⟩
    exact ⟨_, rfl, SmR.of_below hb (KD.out x hx).size, trivial, ⟨fun e => absurd e (by decide), fun e => absurd e (by decide), fun e => absurd e (by decide), fun _ => by rw [HU.out], fun e => absurd e (by decide)⟩⟩
  rw [e6]
  go_simp
  refine wpV_make_R rfl rfl (fun x fu hx _ hd => ?_) ?_
  · unfold makesAtR
    go_simp
    refine ⟨rfl, ?_⟩
    rw [← HU.out]
    refine (l4Closed_any _ m e b1 o1 la ca b2 o2 lb cb S P x (HR0.out.next (KX.out x hx)) R hpl).mono ?_
    rintro _ x' ⟨rfl, hb⟩
    exact ⟨_, rfl, SmR.of_below hb (KD.out x hx).size, trivial, ⟨fun e => absurd e (by decide), fun e => absurd e (by decide), fun e => absurd e (by decide), fun e => absurd e (by decide), fun _ => by rw [HT.out]⟩⟩
  rw [e7]
  go_simp
  refine wpV_nilR ?_
  intro w1 hR1 _
  have B1 := Lib.hid (below_step B0.out hR1.1)
  have s1 := hR1.1.size
  clear hR1 f0 f1 f2 f3 hvs
  rw [← HT.out]
  go_wp2_with (go_at_call 48; refine (l3SetP_any _ m w1 hm' (fun _ h => gen_lt h)).mono ?_; rintro e2 w2 ⟨v, rfl, ho, hb2⟩; have B2 := Lib.hid (below_step B1.out hb2); have O2 := Lib.hid ho; clear hb2 ho)
  go_ret
  exact ⟨v, rfl, O2.out.down (by have := B1.out.size; omega), B2.out⟩

end Go.Proofs.YtajoimopahibcaaGreat



/- IsMaximalIdeal of the reading side. -/
namespace Go.Proofs.YtajoimopahibcaaGreat
open Go.RowKit Go.Shelf
set_option maxRecDepth 100000

section
variable {m : Nat} {S P : Nat → Nat} {p : Nat → Bool}
end
end Go.Proofs.YtajoimopahibcaaGreat

