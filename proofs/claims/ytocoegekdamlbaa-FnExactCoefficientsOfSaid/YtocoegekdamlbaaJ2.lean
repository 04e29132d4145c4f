
/- AssociatesOf of the reading side. -/
import Derived.Test.YtocoegekdamlbaaJ1
namespace Go.Proofs.Ytocoegekdamlbaa
open Go.RowKit
set_option maxRecDepth 100000

theorem sel_wide {m : Nat} {p : Nat → Bool} (hm : m ≤ 16) : ∀ k, k ≤ m → finI (selTo 16 p k) = finI (selTo m p k)
  | 0, _ => rfl
  | k + 1, hk => by
    have ih := sel_wide (p := p) hm k (by omega)
    cases hp : p k
    · rw [selTo_no hp, selTo_no hp, ih]
    · rw [selTo_yes (by omega) hp, selTo_yes (by omega) hp]
      simp only [finI, List.map_append, List.map_cons, List.map_nil] at ih ⊢
      rw [ih]
theorem sel_tail {m : Nat} {p : Nat → Bool} (h : ∀ i, m ≤ i → p i = false) : ∀ d, selTo 16 p (m + d) = selTo 16 p m
  | 0 => rfl
  | d + 1 => by
    show selTo 16 p (m + d + 1) = _
    rw [selTo_no (h (m + d) (by omega)), sel_tail h d]
theorem sel_16 {m : Nat} {p : Nat → Bool} (hm : m ≤ 16) (h : ∀ i, m ≤ i → p i = false) : finI (selTo 16 p 16) = finI (selTo m p m) := by
  have := sel_tail h (16 - m)
  rw [show m + (16 - m) = 16 by omega] at this
  rw [this, sel_wide hm m (Nat.le_refl _)]

theorem index_set (w : World) (S : Array Value) (j : Nat) (b : Bool) (hj : j < 16) (hg : S[j]? = some (.bool b)) : (Instr.index 67 (.agg S) (.int .i64 (j : Int))).run Try.prog w = .ok (.bool b) w := by
  obtain ⟨i0, hi, _⟩ := info_parts (P := Try.prog) (show (Try.prog.info? 4).map (fun i => (i.zero, i.size, i.bytes)) = some (some (.bool false), 1, 1) by kernel_rfl)
  have hs := run_sizeOf (P := Try.prog) w hi
  have hc : Try.prog.cellsOf 4 = 1 := by kernel_rfl
  have h1 : (0 : Int) ≤ (j : Int) ∧ (j : Int) < ((16 : Nat) : Int) := by omega
  simp [Instr.index, run_underlying Try.underlying67, asIntOf, h1, go_sem, hs, hc, hj, hg]
theorem Own.farC {w : World} {D n : Nat} {A : Option Addr} {xs : List Int} (h : Own w D A n xs) {p : Addr} (hp : p.block < D) (u : Value) : Own (w.setCell p u) D A n xs :=
  ⟨h.1, fun hn => by
    obtain ⟨g, off, e, hD, hg, hc⟩ := h.2 hn
    refine ⟨g, off, e, hD, by simpa using hg, fun k hk => ?_⟩
    have hne : p ≠ (⟨g, off + k, none⟩ : Addr) := fun e => by rw [e] at hp; exact absurd hp (Nat.not_lt.2 hD)
    exact ⟨(World.cell?_setCell_other _ _ _ _ hne).trans (hc k hk).1, (World.frozen?_setCell _ _ _ _).trans (hc k hk).2⟩⟩
theorem finI_get {m k : Nat} {l : List (Fin m)} (hk : k < l.length) : ∃ u : Nat, u < m ∧ (finI l)[k]?.getD 0 = (u : Int) ∧ (finN l).take (k + 1) = (finN l).take k ++ [u] := by
  refine ⟨l[k].1, l[k].2, by simp [finI, hk], ?_⟩
  rw [List.take_add_one]
  simp [finN, hk]

set_option maxHeartbeats 4000000 in
theorem l3Set_any (l : List Nat) (S : Array Value) (w : World) (hS : setA l = S) :
    Calls Try.prog 72 #[.agg S] w fun e' w' => ∃ v, e' = .returned v ∧ SliceOut w.heap.size w' v (finI (selTo 16 (fun i => decide (i ∈ l)) 16)) ∧ Below w.heap.size w w' := by
  obtain ⟨i0, hi, hz0, hz1, hz2⟩ := info_parts int_info
  have hS1 : S.size = 16 := by rw [← hS, setA_size]
  have hiS : (Try.prog.info? 67).map (·.size) = some S.size := by rw [hS1]; kernel_rfl
  obtain ⟨W, hW⟩ : ∃ W, (w.alloc (.cells S 67)).alloc (.cells #[] 3) = W := ⟨_, rfl⟩
  have k0 : Blk W w.heap.size 67 S := by
    subst hW; exact (Blk.new w _ _).alloc _
  have b0 : Below w.heap.size w W := by
    subst hW; exact ((Below.refl _ _).alloc (Nat.le_refl _) _).alloc (by simp) _
  have o0 : W.ownsRow w.heap.size 3 1 (.slice (some ⟨w.heap.size + 1, 0, none⟩) 0 0) 0 [] := by
    subst hW
    have := own_lit_K (w := w.alloc (.cells S 67)) (base := w.heap.size) (e := 3) [] (by simp) (by unfold maxLen; simp)
    simpa using this
  have HS := Lib.hid hS
  have HW := Lib.hid hW
  have O0 := Lib.hid o0
  have B0 := Lib.hid b0
  clear hW hS b0 o0
  go_enter Try.func72, Try.ntmps72
  go_wp2_with (first
    | (refine wpList_load_row rfl 67 (.tmp 1) rfl w.heap.size rfl _ S (0, 0) _ (by rw [HW.out]; exact k0) Try.underlying67 rfl hiS ?_; rw [HW.out]))
  go_loopg [3, 8] 16 (fun g vs vi wr => ∃ j : Nat, j ≤ 16 ∧ 16 ≤ j + g ∧ vi = .int .i64 j ∧ wr.ownsRow w.heap.size 3 1 vs (selTo 16 (fun i => decide (i ∈ l)) j).length (finV (selTo 16 (fun i => decide (i ∈ l)) j)) ∧ Below w.heap.size w wr)
  case atStart => exact ⟨0, Nat.zero_le _, by omega, rfl, O0.out, B0.out⟩
  case round =>
    obtain ⟨j, hj, hg, rfl, hown, hb⟩ := hrel
    have hsz := hb.size
    have OW := Lib.hid hown
    have BW := Lib.hid hb
    have hln := selTo_len (m := 16) (p := fun i => decide (i ∈ l)) j
    clear hown hb
    by_cases hlt : j < 16
    · have hg1 := setA_get (l := l) hlt
      rw [HS.out] at hg1
      cases hq : decide (j ∈ l)
      · rw [hq] at hg1
        have hix := index_set wr S j _ hlt hg1
        have HQ := Lib.hid (selTo_no (m := 16) (p := fun i => decide (i ∈ l)) hq)
        clear hq
        go_wp2
        go_roundg (16 - (j + 1))
        case measure => omega
        case rel => exact ⟨j + 1, by omega, by omega, by go_num, by rw [HQ.out]; exact OW.out, BW.out⟩
      · rw [hq] at hg1
        have hix := index_set wr S j _ hlt hg1
        have HQ := Lib.hid (selTo_yes (m := 16) (p := fun i => decide (i ∈ l)) hlt hq)
        have wr2 : Below wr.heap.size wr (wr.alloc (.cells #[.int .i64 (j : Int)] 3)) := (Below.refl _ _).alloc (Nat.le_refl _) _
        clear hq
        go_wp2_with (at_builtin; refine wpList_append_own _ rfl _ _ 22 rfl w.heap.size 3 i0 (.int .i64 0) 1 8 Try.underlying22 hi hz0 hz1 hz2 rfl (by decide) _ _ _ rfl (OW.out.alloc _) ⟨wr.heap.size, 0, none⟩ 1 1 [.int .i64 j] rfl rfl (by intro i u hi; match i, hi with | 0, hi => simp at hi; subst hi; simp [Addr.add]) (by intro u hu; simp at hu; subst hu; rfl) (by unfold maxLen; omega) (by omega) (by simp; omega) ?_; intro v5 w5 hown5 hg5 _; have B5 := Lib.hid ((BW.out.trans (wr2.mono hsz)).grown hg5 (Nat.le_trans hsz wr2.size) (fun k hk => (OW.out.lt k hk).1)); have O5 := Lib.hid (show w5.ownsRow w.heap.size 3 1 v5 (selTo 16 (fun i => decide (i ∈ l)) (j + 1)).length (finV (selTo 16 (fun i => decide (i ∈ l)) (j + 1))) by rw [HQ.out]; simpa [finV] using hown5); clear hown5 hg5)
        go_roundg (16 - (j + 1))
        case measure => omega
        case rel => exact ⟨j + 1, by omega, by omega, by go_num, O5.out, B5.out⟩
    · have hjm : j = 16 := by omega
      subst hjm
      go_wp2
      go_ret
      exact ⟨_, rfl, sel_out OW.out rfl (by omega), BW.out⟩

set_option maxHeartbeats 8000000 in
theorem sassoc_any (n o : Int) (A B : Option Addr) (la ca lb cb : Nat) (X Y : List Int) (a : Int) (w : World) (hX : Ints w w.heap.size A la X) (hY : Ints w w.heap.size B lb Y) (hla : la ≤ 9223372036854775807) (hlb : lb ≤ 9223372036854775807) (hca : la ≤ ca) (hcb : lb ≤ cb) :
    Calls Try.prog 42 #[.agg #[.int .i64 n, .int .i64 o, .slice A la ca, .slice B lb cb], .int .i64 a] w fun e' w' => ∃ v, e' = .returned v ∧ SliceOut w.heap.size w' v (assocL n o X Y a) ∧ Below w.heap.size w w' := by
  have HH := Lib.hid (show wrap64 (n - 1) = hiOf n from rfl)
  obtain ⟨W, hW⟩ : ∃ W, ((w.alloc (.cells #[.int .i64 n, .int .i64 o, .slice A la ca, .slice B lb cb] 28)).alloc (.cells (setA []) 67)).alloc (.cells #[.int .i64 a] 3) = W := ⟨_, rfl⟩
  have k0 : Blk W w.heap.size 28 #[.int .i64 n, .int .i64 o, .slice A la ca, .slice B lb cb] := by
    subst hW; exact ((Blk.new w _ _).alloc _).alloc _
  have k1 : Blk W (w.heap.size + 1) 67 (setA []) := by
    subst hW
    have := Blk.new (w.alloc (.cells #[.int .i64 n, .int .i64 o, .slice A la ca, .slice B lb cb] 28)) 67 (setA [])
    rw [World.size_alloc] at this
    exact this.alloc _
  have hE : Ints W (w.heap.size + 3) (some ⟨w.heap.size + 2, 0, none⟩) 1 [a] := by
    subst hW
    have := ints_one (w := (w.alloc (.cells #[.int .i64 n, .int .i64 o, .slice A la ca, .slice B lb cb] 28)).alloc (.cells (setA []) 67)) (v := a) (T := 3)
    simpa using this
  have b0 : Below w.heap.size w W := by
    subst hW; exact (((Below.refl _ _).alloc (Nat.le_refl _) _).alloc (by simp) _).alloc (by simp; omega) _
  have hs0 : w.heap.size + 1 < W.heap.size := k1.lt
  have HX := Lib.hid (hX.next b0)
  have HY := Lib.hid (hY.next b0)
  have B0 := Lib.hid b0
  rw [setA_nil] at hW
  have HW := Lib.hid hW
  have K0 := Lib.hid k0
  have K1 := Lib.hid k1
  have HE := Lib.hid hE
  obtain ⟨c0, c1, c2, c3⟩ := blk4 k0
  clear k0 k1 b0 hW hE
  cases he : elB (hiOf n) [a]
  · have hz := Lib.hid (assocL_no (n := n) (o := o) (X := X) (Y := Y) (a := a) (fun g => by have h1 := g.1; have h2 := g.2; simp [hi_valid h1, elB_one] at he; simp [he] at h2))
    clear hX hY
    go_enter Try.func42, Try.ntmps42
    go_wp2_with (fail)
    rw [HW.out]
    go_wp2_with (go_at_call 50; ((with_reducible refine (l1Elements_any _ _ _ _ _ [a] _ _ HH.out HE.out (by omega)).mono ?_); rintro e51 w51 ⟨rfl, rfl⟩))
    go_ret
    exact ⟨_, rfl, by rw [hz.out]; exact SliceOut.of_row (n := 0) (own_lit_K [] B0.out.size (by unfold maxLen; simp)) rfl (by omega), B0.out.alloc B0.out.size _⟩
  · cases hv : validB n o X Y
    · have hz := Lib.hid (assocL_no (n := n) (o := o) (X := X) (Y := Y) (a := a) (fun g => by have := g.1; rw [hv] at this; cases this))
      clear hX hY
      go_enter Try.func42, Try.ntmps42
      go_wp2_with (fail)
      rw [HW.out]
      go_wp2_with (first
        | (go_at_call 50; ((with_reducible refine (l1Elements_any _ _ _ _ _ [a] _ _ HH.out HE.out (by omega)).mono ?_); rintro e51 w51 ⟨rfl, rfl⟩))
        | (go_at_call 57; ((with_reducible refine (specValid_any _ _ _ _ _ _ _ _ X Y _ HX.out HY.out hla hlb hca hcb).mono ?_); rintro e1 w1 ⟨rfl, hb1⟩; have B1 := Lib.hid (below_step B0.out hb1); clear hb1)))
      go_ret
      exact ⟨_, rfl, by rw [hz.out]; exact SliceOut.of_row (n := 0) (own_lit_K [] B1.out.size (by unfold maxLen; simp)) rfl (by omega), B1.out.alloc B1.out.size _⟩
    · have ha : inB n a = true := by have h9 := he; rw [hi_valid hv, elB_one] at h9; exact h9
      obtain ⟨m, e, b1, o1, b2, o2, rfl, rfl, rfl, rfl, hr, _, _, _, _, _⟩ := valid_data hv hX hY hca hcb
      have ha' := of_decide_eq_true ha
      obtain ⟨a, rfl⟩ := Int.eq_ofNat_of_zero_le ha'.1
      have la' : a < m := by omega
      have hz := Lib.hid (assocL_yes hv ha)
      have hkl := Lib.hid (kindsL_yes (k := 0) hv)
      have hm' := hr.hm'
      have HR0 := Lib.hid hr
      clear hr
      have HX0 := Lib.hid hX
      have HY0 := Lib.hid hY
      clear hX hY
      go_enter Try.func42, Try.ntmps42
      go_wp2_with (fail)
      rw [HW.out]
      go_wp2_with (first
        | (go_at_call 50; ((with_reducible refine (l1Elements_any _ _ _ _ _ [(a : Int)] _ _ HH.out HE.out (by omega)).mono ?_); rintro e51 w51 ⟨rfl, rfl⟩))
        | (go_at_call 57; ((with_reducible refine (specValid_any _ _ _ _ _ _ _ _ X Y _ HX.out HY.out hla hlb hca hcb).mono ?_); rintro e1 w1 ⟨rfl, hb1⟩; have B1 := Lib.hid (below_step B0.out hb1); have K01 := Lib.hid (K0.out.next hb1); have K11 := Lib.hid (K1.out.next hb1); have s1 := hb1.size; obtain ⟨d0, d1, d2, d3⟩ := blk4 K01.out; clear hb1))
        | (go_at_call 28; refine (skind0_any _ _ _ _ _ _ _ _ X Y _ (HX0.out.next B1.out) (HY0.out.next B1.out) hla hlb hca hcb).mono ?_; rintro e2 w2 ⟨v2, rfl, ⟨A5, l5, c5, rfl, hA5, hc5, hl5⟩, hb2⟩; have B2 := Lib.hid (below_step B1.out hb2); have K02 := Lib.hid (K01.out.next hb2); have K12 := Lib.hid (K11.out.next hb2); have s2 := hb2.size; have IA := Lib.hid hA5; clear hb2 hA5))
      obtain ⟨L, hL⟩ : ∃ L, selTo m (kindB m (tabOf Y) e 0) m = L := ⟨_, rfl⟩
      have HL := Lib.hid hL
      have el5 : l5 = L.length := by rw [← IA.out.1, hkl.out, finI_len, hL]
      have IA := Lib.hid (show Own w2 w1.heap.size A5 l5 (finI L) by have := IA.out; rw [hkl.out, hL] at this; exact this)
      have l16 : l5 ≤ 16 := by rw [el5, ← hL]; exact Nat.le_trans (selTo_len m) hm'
      have EL := Lib.hid el5
      clear hL el5
      go_loopg [23] 16 (fun g vi wr => ∃ k : Nat, k ≤ l5 ∧ 16 ≤ k + g ∧ vi = .int .i64 k ∧ Blk wr (w.heap.size + 1) 67 (setA (((finN L).take k).map fun u => tabOf Y (a * m + u))) ∧ Blk wr w.heap.size 28 #[.int .i64 m, .int .i64 e, .slice (some ⟨b1, o1, none⟩) la ca, .slice (some ⟨b2, o2, none⟩) lb cb] ∧ Own wr w1.heap.size A5 l5 (finI L) ∧ Below w.heap.size w wr)
      case atStart => exact ⟨0, Nat.zero_le _, by omega, rfl, K12.out, K02.out, IA.out, B2.out⟩
      case round =>
        obtain ⟨k, hk, hg, rfl, h1, h2, h3, h4⟩ := hrel
        have H1 := Lib.hid h1
        have H2 := Lib.hid h2
        have H3 := Lib.hid h3
        have H4 := Lib.hid h4
        obtain ⟨f0, f1, f2, f3⟩ := blk4 h2
        have RV := Lib.hid (HR0.out.next h4)
        have hsz := h4.size
        clear h1 h2 h3 h4
        by_cases hlt : k < l5
        · obtain ⟨u, hu, hu1, hu2⟩ := finI_get (l := L) (k := k) (by have := EL.out; omega)
          obtain ⟨bb, off, rfl, hbb, hck⟩ := H3.out.ints.at_ hlt
          rw [hu1] at hck
          have ht := RV.out.tp.lt la' hu
          have HU := Lib.hid hu2
          clear hu1 hu2
          go_wp2_with (fail)
          refine (l1Mul_any a u m e b1 o1 la ca b2 o2 lb cb (tabOf X) (tabOf Y) _ RV.out la' hu).mono ?_
          rintro e3 w3 ⟨rfl, hb3⟩
          have Q3 := Lib.hid hb3
          have hc := ((H1.out.next hb3).cell (tabOf Y (a * m + u))).trans (setA_get (by omega))
          have hf := (H1.out.next hb3).frozen (tabOf Y (a * m + u))
          have t0 : (0 : Int) ≤ (tabOf Y (a * m + u) : Int) := by omega
          have t1 : (tabOf Y (a * m + u) : Int) < 16 := by omega
          clear hb3
          go_wp2
          go_roundg (16 - (k + 1))
          case measure => omega
          case rel =>
            refine ⟨k + 1, by omega, by omega, by go_num, ?_, (H2.out.next Q3.out).far (by show w.heap.size ≠ w.heap.size + 1; omega) _, (H3.out.next Q3.out).farC (by show w.heap.size + 1 < w1.heap.size; omega) _, (below_step H4.out Q3.out).setCell (p := ⟨w.heap.size + 1, _, none⟩) (Nat.le_succ _) _⟩
            have := (H1.out.next Q3.out).set_ (tabOf Y (a * m + u)) (.bool true)
            rw [setA_set] at this
            rw [HU.out, List.map_append]
            exact this
        · have hkl2 : k = l5 := by omega
          have e0 : (finN L).take k = finN L := List.take_of_length_le (by have := EL.out; simp [finN]; omega)
          have hb1 := H1.out
          rw [e0] at hb1
          obtain ⟨S, hS⟩ : ∃ S, setA ((finN L).map fun u => tabOf Y (a * m + u)) = S := ⟨_, rfl⟩
          rw [hS] at hb1
          have HS := Lib.hid hS
          have hS1 : S.size = 16 := by rw [← hS, setA_size]
          have hiS : (Try.prog.info? 67).map (·.size) = some S.size := by rw [hS1]; kernel_rfl
          clear hS e0
          go_wp2_with (first
            | (refine wpList_load_row rfl 67 (.tmp 5) rfl (w.heap.size + 1) rfl _ S (0, 0) _ hb1 Try.underlying67 rfl hiS ?_)
            | (go_at_call 72; refine (l3Set_any _ S _ HS.out).mono ?_; rintro e4 w4 ⟨v4, rfl, ho4, hb4⟩))
          go_ret
          refine ⟨_, rfl, ?_, below_step H4.out hb4⟩
          rw [hz.out]
          rw [sel_16 hm' (fun i hi => by
            rw [decide_eq_false_iff_not, List.mem_map]
            rintro ⟨u, hu, rfl⟩
            simp only [finN, List.mem_map] at hu
            obtain ⟨x, _, rfl⟩ := hu
            exact absurd (RV.out.tp.lt la' x.2) (Nat.not_lt.2 hi))] at ho4
          rw [← HL.out] at ho4
          exact ho4.down hsz

end Go.Proofs.Ytocoegekdamlbaa
