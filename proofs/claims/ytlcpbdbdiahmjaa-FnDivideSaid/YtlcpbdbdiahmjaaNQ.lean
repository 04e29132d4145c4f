/- Texts of this seat in one: DA DB DC DD DE DG DH DI. -/
import Derived.Test.YtlcpbdbdiahmjaaNH
import Derived.Test.YtlcpbdbdiahmjaaNG
import Derived.Test.YtlcpbdbdiahmjaaMG
import Derived.Deep.Cut
import Derived.WalkLawsBesides
import Derived.Defers
import Derived.Recover
import Derived.Laws.Pointers
import Derived.Test.YtlcpbdbdiahmjaaMB

/- The program's last, term and certainInverse. -/
namespace Go.Proofs.Ytlcpbdbdiahmjaa
open Go.RowKit Go.Shelf
set_option maxRecDepth 100000

set_option maxHeartbeats 2000000 in
theorem last_any (F : Nat → Nat) (E : Option Addr) (l c : Nat) (T : TypeId) (rv : Value) (w : World) (hI : Ints w w.heap.size E (l + 1) (lstF F (l + 1))) (hl : l ≤ 1000) :
    Calls Try.prog 91 #[.agg #[.iface T rv, .slice E (l + 1) c]] w fun e w' => e = .returned (.int .i64 (F l : Nat)) ∧ Below w.heap.size w w' := by
  obtain ⟨W, hW⟩ : ∃ W, w.alloc (.cells #[.iface T rv, .slice E (l + 1) c] 61) = W := ⟨_, rfl⟩
  have k0 : Blk W w.heap.size 61 #[.iface T rv, .slice E (l + 1) c] := by subst hW; exact Blk.new w _ _
  have b0 : Below w.heap.size w W := by subst hW; exact (Below.refl _ _).alloc (Nat.le_refl _) _
  have HI := Lib.hid (hI.next b0)
  have HW := Lib.hid hW
  have B0 := Lib.hid b0
  have p0 := k0.cell 0
  have p1 := k0.cell 1
  simp at p0 p1
  obtain ⟨b, off, rfl, hbb⟩ := lstF_addr HI.out (by omega)
  have hc0 := lstF_cell HI.out (i := l) (by omega)
  have tk : ((l + 1 : Nat) : Int) = (l : Int) + 1 := by omega
  have tk2 : ¬ ((l : Int) + 1 = 0) := by omega
  have tk3 : (((l : Int) + 1) == 0) = false := by rw [beq_eq_false_iff_ne]; omega
  have tk4 : IntKind.i64.wrap ((l : Int) + 1 - 1) = (l : Int) := by rw [IntWalk.i64_in _ (by omega)]; omega
  clear hI hW k0 b0
  go_enter Try.func91, Try.ntmps91
  go_upto_region 1 with (fail)
  rw [HW.out]
  go_wp2
  go_ret
  exact ⟨rfl, B0.out⟩

theorem mon_put {k t : Nat} : putF (fun _ => 0) k t = monF k t := rfl

set_option maxHeartbeats 4000000 in
theorem term_any (k t : Nat) (T : TypeId) (rv pc : Value) (w : World) (hk : k ≤ 100) :
    Calls Try.prog 93 #[.agg #[.iface T rv, pc], .int .i64 t, .int .i64 k] w fun e w' => ∃ v, e = .returned (.agg #[.iface T rv, v]) ∧ PolV w.heap.size w' v (monL k t) (monF k t) ∧ Below w.heap.size w w' := by
  obtain ⟨i0, hi, hz0, hz1, hz2⟩ := info_parts int_info
  obtain ⟨s, hs⟩ : ∃ s, w.heap.size = s := ⟨_, rfl⟩
  obtain ⟨W, hW⟩ : ∃ W, (w.alloc (.cells #[.iface T rv, pc] 61)).alloc (.cells #[.nilIface, .slice none 0 0] 61) = W := ⟨_, rfl⟩
  have k0 : Blk W s 61 #[.iface T rv, pc] := by subst hW hs; exact (Blk.new w _ _).alloc _
  have k1 : Blk W (s + 1) 61 #[.nilIface, .slice none 0 0] := by
    subst hW hs
    have := Blk.new (w.alloc (.cells #[.iface T rv, pc] 61)) 61 #[.nilIface, .slice none 0 0]
    rw [World.size_alloc] at this
    exact this
  have b0 : Below s w W := by subst hW hs; exact ((Below.refl _ _).alloc (Nat.le_refl _) _).alloc (by simp) _
  have hsW : W.heap.size = s + 2 := by subst hW hs; simp
  have HW := Lib.hid hW
  have B0 := Lib.hid b0
  have K0 := Lib.hid k0
  have K1 := Lib.hid k1
  have HS := Lib.hid hs
  have tw : IntKind.i64.wrap ((k : Int) + 1) = (k : Int) + 1 := IntWalk.i64_in _ (by omega)
  have TL := Lib.hid (show (k : Int) + 1 = ((k + 1 : Nat) : Int) by omega)
  have hw0 : w.heap.size ≤ s := by omega
  rw [hs]
  clear hW k0 k1 b0
  go_enter Try.func93, Try.ntmps93
  go_upto_region 1 with (fail)
  try rw [HW.out]
  go_upto_region 2 with (at_make; refine wpList_make_full _ rfl _ _ 23 rfl (s + 2) 3 i0 (.int .i64 0) 1 Try.underlying23 hi hz0 hz1 .i64 .i64 _ _ (k + 1) rfl rfl TL.out TL.out (by rw [hz2]; omega) (by unfold maxLen; omega) (by omega) ?_; intro w1 hown1 hg1)
  have O1 := Lib.hid (show w1.ownsRow (s + 2) 3 1 (.slice (some ⟨s + 2, 0, none⟩) (k + 1) (k + 1)) (k + 1) ((lstF (fun _ => 0) (k + 1)).map (.int .i64)) by
    rw [← lstV_made, ← hsW]; rw [← hsW] at hown1; exact hown1)
  have B1 := Lib.hid (show Below (s + 2) W w1 from (Below.refl _ _).grown hg1 (by omega) (by simp))
  clear hown1 hg1
  have hc := O1.out.cellAt k (by omega)
  rw [lstV_get (show k < k + 1 by omega)] at hc
  have hf := O1.out.frozenAt k
  have hki : (k : Int) < ((k + 1 : Nat) : Int) := by omega
  have hkj : (k : Int) < (k : Int) + 1 := by omega
  have hk0 : (0 : Int) ≤ (k : Int) := by omega
  go_upto_region 3 with (fail)
  obtain ⟨w2, hw2⟩ : ∃ x, w1.setCell ⟨s + 2, k, none⟩ (.int .i64 (t : Nat)) = x := ⟨_, rfl⟩
  have o2 : w2.ownsRow (s + 2) 3 1 (.slice (some ⟨s + 2, 0, none⟩) (k + 1) (k + 1)) (k + 1) ((lstF (monF k t) (k + 1)).map (.int .i64)) := by
    subst hw2
    rw [← mon_put, ← lstV_set (show k < k + 1 by omega)]
    exact (O1.out.stored k _).1
  have P2 := Lib.hid (PolV.of_row o2 (by omega))
  have H0 := Lib.hid (show Blk w2 s 61 #[.iface T rv, pc] by subst hw2; exact (K0.out.below B1.out (by omega)).far (by show s ≠ s + 2; omega) _)
  have H1 := Lib.hid (show Blk w2 (s + 1) 61 #[.nilIface, .slice none 0 0] by subst hw2; exact (K1.out.below B1.out (by omega)).far (by show s + 1 ≠ s + 2; omega) _)
  have B2 := Lib.hid (show Below s w w2 by subst hw2; exact (B0.out.trans (B1.out.mono (by omega))).setCell (by show s ≤ s + 2; omega) _)
  have hs2 := B2.out.size
  rw [hw2]
  clear hw2 o2 hc hf
  have p0 := H0.out.cell 0
  have p1 := H0.out.cell 1
  simp at p0 p1
  go_wp2_with (go_at_call 92; (with_reducible refine (with_any (s + 2) (k + 1) T rv pc _ (monF k t) _ P2.out).mono ?_); rintro e3 w3 ⟨v3, rfl, hp3, hb3⟩; obtain ⟨A3, c3, rfl, hp3'⟩ := hp3; have P3 := Lib.hid (show PolV (s + 2) w3 (.slice A3 (tlN (monF k t) (k + 1)) c3) (tlN (monF k t) (k + 1)) (monF k t) from ⟨A3, c3, rfl, hp3'⟩); have B3 := Lib.hid (B2.out.trans (hb3.mono (by omega))); have H3 := Lib.hid (H1.out.next hb3); clear hb3 hp3'; have e0 := H3.out.cell 0; have e1 := H3.out.cell 1; have f0 := H3.out.frozen 0; have f1 := H3.out.frozen 1; simp at e0 e1)
  refine bodyPost_ret (v := .agg #[.iface T rv, .slice A3 (tlN (monF k t) (k + 1)) c3]) ?_ rfl ⟨_, rfl, ((P3.out.set2 (g := s + 1) (by omega) 0 _).set2 (g := s + 1) (by omega) 1 _).down (by omega), (B3.out.setCell (by show s ≤ s + 1; omega) _).setCell (by show s ≤ s + 1; omega) _⟩
  exact results_cell_row Try.results93 _ _ (s + 1) 61 _ (0, 0) _ rfl ((H3.out.set_ 0 _).set_ 1 _) Try.underlying61 rfl (by kernel_rfl)

end Go.Proofs.Ytlcpbdbdiahmjaa



/- The program's minus. -/
namespace Go.Proofs.Ytlcpbdbdiahmjaa
open Go.RowKit Go.Shelf
set_option maxRecDepth 100000

theorem negv_nat (a : Nat) (m e b1 o1 la ca b2 o2 lb cb : Nat) (S P : Nat → Nat) (w : World) (hr : RingAt w m e b1 o1 la ca b2 o2 lb cb S P) (R : RTab m S P e) (ha : a < m) :
    Calls Try.prog 159 #[.agg #[.int .i64 m, .int .i64 e, .slice (some ⟨b1, o1, none⟩) la ca, .slice (some ⟨b2, o2, none⟩) lb cb], .int .i64 a] w fun e' w' => e' = .returned (.int .i64 (ngN m S a : Nat)) ∧ Below w.heap.size w w' := by
  have := negative_any a m e b1 o1 la ca b2 o2 lb cb S P w hr ha
  rwa [R.ng_cast ha] at this

/-- What minus draws in its last statement: a polynomial without zeros at the end, and a sum. -/
structure MiPhi (D n r : Nat) (N A : Nat → Nat) (T : TypeId) (rv : Value) (i : Nat) (v : Value) (w : World) : Prop where
  p3 : i = 3 → ∃ u, v = .agg #[.iface T rv, u] ∧ PolV D w u n N
  p4 : i = 4 → ∃ u, v = .agg #[.iface T rv, u] ∧ PolV D w u r A
structure MiSh (n r : Nat) (T : TypeId) (rv : Value) (i : Nat) (v : Value) : Prop where
  p3 : i = 3 → ∃ A c, v = .agg #[.iface T rv, .slice A n c]
  p4 : i = 4 → ∃ A c, v = .agg #[.iface T rv, .slice A r c]
section
variable {D n r : Nat} {N A : Nat → Nat} {T : TypeId} {rv : Value}
theorem MiPhi_stable (i : Nat) (v : Value) (w w' : World) (h : MiPhi D n r N A T rv i v w) (hb : Below w.heap.size w w') : MiPhi D n r N A T rv i v w' := ⟨fun e => by
  obtain ⟨u, h1, h2⟩ := h.p3 e
  exact ⟨u, h1, h2.next hb⟩, fun e => by
  obtain ⟨u, h1, h2⟩ := h.p4 e
  exact ⟨u, h1, h2.next hb⟩⟩
theorem MiSh_of (i : Nat) (v : Value) (w : World) (h : MiPhi D n r N A T rv i v w) : MiSh n r T rv i v := ⟨fun e => by
  obtain ⟨u, h1, A, c, h2, _⟩ := h.p3 e
  exact ⟨A, c, by rw [h1, h2]⟩, fun e => by
  obtain ⟨u, h1, A, c, h2, _⟩ := h.p4 e
  exact ⟨A, c, by rw [h1, h2]⟩⟩
def mi0 (n r : Nat) (T : TypeId) (rv : Value) (i : Nat) : Value := if i = 3 then .agg #[.iface T rv, .slice none n 0] else .agg #[.iface T rv, .slice none r 0]
theorem MiSh_zero (i : Nat) : MiSh n r T rv i (mi0 n r T rv i) := ⟨fun e => by subst e; exact ⟨none, 0, rfl⟩, fun e => by subst e; exact ⟨none, 0, rfl⟩⟩
def miMk (i : Nat) : Bool := i == 3 || i == 4
end

set_option maxHeartbeats 8000000 in
theorem minus_any (F G : Nat → Nat) (E K : Option Addr) (lf lg cf cg : Nat) (T2 : TypeId) (rv2 : Value) (m e b1 o1 la ca b2 o2 lb cb : Nat) (S P : Nat → Nat) (w : World) (hr : RingAt w m e b1 o1 la ca b2 o2 lb cb S P) (R : RTab m S P e) (hF : Ints w w.heap.size E lf (lstF F lf)) (hG : Ints w w.heap.size K lg (lstF G lg)) (hlf : lf ≤ 100) (hlg : lg ≤ 100) (hf : ∀ i, i < lf → F i < m) (hg : ∀ i, i < lg → G i < m) :
    Calls Try.prog 94 #[.agg #[.iface 25 (.agg #[.int .i64 m, .int .i64 e, .slice (some ⟨b1, o1, none⟩) la ca, .slice (some ⟨b2, o2, none⟩) lb cb]), .slice E lf cf], .agg #[.iface T2 rv2, .slice K lg cg]] w fun e' w' => ∃ v, e' = .returned (.agg #[.iface 25 (.agg #[.int .i64 m, .int .i64 e, .slice (some ⟨b1, o1, none⟩) la ca, .slice (some ⟨b2, o2, none⟩) lb cb]), v]) ∧ PolV w.heap.size w' v (tlN (addF m S F lf (ngF m S G) (tlN (ngF m S G) lg)) (max lf (tlN (ngF m S G) lg))) (addF m S F lf (ngF m S G) (tlN (ngF m S G) lg)) ∧ Below w.heap.size w w' := by
  obtain ⟨i0, hi, hz0, hz1, hz2⟩ := info_parts int_info
  obtain ⟨n, hn⟩ : ∃ n, tlN (ngF m S G) lg = n := ⟨_, rfl⟩
  have hnl : n ≤ lg := by rw [← hn]; exact tl_le _
  have HNL := Lib.hid (show ∀ i, i < n → ngF m S G i < m from fun i hi => R.ng_lt (hg i (by omega)))
  rw [hn]
  obtain ⟨A0, hA0⟩ : ∃ A0, addF m S F lf (ngF m S G) n = A0 := ⟨_, rfl⟩
  obtain ⟨r0, hr0⟩ : ∃ r0, tlN A0 (max lf n) = r0 := ⟨_, rfl⟩
  rw [hA0, hr0]
  have HN0 := Lib.hid hn
  have HA0 := Lib.hid hA0
  have HR0 := Lib.hid hr0
  clear hn hA0 hr0
  have HG' := Lib.hid hg
  have HF' := Lib.hid hf
  have HRT := Lib.hid R
  have q2 := rg_negative (.agg #[.int .i64 m, .int .i64 e, .slice (some ⟨b1, o1, none⟩) la ca, .slice (some ⟨b2, o2, none⟩) lb cb])
  have q4 := rg_negativeA (.agg #[.int .i64 m, .int .i64 e, .slice (some ⟨b1, o1, none⟩) la ca, .slice (some ⟨b2, o2, none⟩) lb cb])
  obtain ⟨W, hW, k0, k1, k2, b0, hsW⟩ := two_boxes (.iface 25 (.agg #[.int .i64 m, .int .i64 e, .slice (some ⟨b1, o1, none⟩) la ca, .slice (some ⟨b2, o2, none⟩) lb cb])) (.slice E lf cf) (.iface T2 rv2) (.slice K lg cg) w
  obtain ⟨D, hD⟩ : ∃ D, W.heap.size = D := ⟨_, rfl⟩
  have hDs : D = w.heap.size + 1 + 1 + 1 := by omega
  have R0 := Lib.hid (hr.next b0)
  have F0 := Lib.hid (hF.next b0)
  have G0 := Lib.hid (hG.next b0)
  have HW := Lib.hid hW
  have B0 := Lib.hid b0
  have HDS := Lib.hid hDs
  have T0 := Lib.hid (show ∀ x, Below D W x → Blk x w.heap.size 61 #[.iface 25 (.agg #[.int .i64 m, .int .i64 e, .slice (some ⟨b1, o1, none⟩) la ca, .slice (some ⟨b2, o2, none⟩) lb cb]), .slice E lf cf] from fun x hx => k0.below hx (by omega))
  have T1 := Lib.hid (show ∀ x, Below D W x → Blk x (w.heap.size + 1) 61 #[.iface T2 rv2, .slice K lg cg] from fun x hx => k1.below hx (by omega))
  have T3 := Lib.hid (show ∀ x, Below D W x → Blk x (w.heap.size + 1 + 1) 61 #[.nilIface, .slice none 0 0] from fun x hx => k2.below hx (by omega))
  have TR := Lib.hid (show ∀ x, Below D W x → RingAt x m e b1 o1 la ca b2 o2 lb cb S P from fun x hx => R0.out.next (hD ▸ hx))
  have TF := Lib.hid (show ∀ x, Below D W x → Ints x D E lf (lstF F lf) from fun x hx => by rw [← hD]; exact F0.out.below (hD ▸ hx) (Nat.le_refl _))
  have TG := Lib.hid (show ∀ x, Below D W x → Ints x D K lg (lstF G lg) from fun x hx => by rw [← hD]; exact G0.out.below (hD ▸ hx) (Nat.le_refl _))
  have x0 := k0.cell 0
  have x1 := k0.cell 1
  have y0 := k1.cell 0
  have y1 := k1.cell 1
  simp at x0 x1 y0 y1
  clear hr hF hG b0 hW hf hg k0 k1 k2 hsW hDs R
  go_enter Try.func94, Try.ntmps94
  go_upto_region 1 with (fail)
  rw [HW.out]
  go_wp2_with (at_make; refine wpList_make_own _ rfl _ _ 23 rfl D 3 i0 (.int .i64 0) 1 Try.underlying23 hi hz0 hz1 _ _ _ lg rfl rfl rfl (by rw [hz2]; omega) (by unfold maxLen; omega) (by omega) ?_; intro w1 hown1 hg1; rw [hD] at hown1; have B1 := Lib.hid (show Below D W w1 from (Below.refl D W).grown hg1 (by omega) (by simp)); have O1 := Lib.hid hown1; clear hown1 hg1; clear x0 x1 y0 y1; have x0 := (T0.out _ B1.out).cell 0; have x1 := (T0.out _ B1.out).cell 1; have y0 := (T1.out _ B1.out).cell 0; have y1 := (T1.out _ B1.out).cell 1; simp at x0 x1 y0 y1)
  clear x0 x1 y0 y1
  go_loopg [5, 15] lg (fun g vs i wr => ∃ k : Nat, k ≤ lg ∧ lg ≤ k + g ∧ i = .int .i64 k ∧ wr.ownsRow D 3 1 vs k ((lstF (ngF m S G) k).map (.int .i64)) ∧ Below D W wr)
  case atStart => exact ⟨0, Nat.zero_le _, by omega, rfl, by simpa [lstF] using O1.out, B1.out⟩
  case round =>
    obtain ⟨k, hk, hgk, rfl, hown, hb⟩ := hrel
    have OK := Lib.hid hown
    have BK := Lib.hid hb
    have hszk := hb.size
    clear hown hb
    by_cases hkl : k < lg
    · have hki : (k : Int) < (lg : Int) := by omega
      have GK := TG.out wr BK.out
      obtain ⟨b, off, rfl, hbb⟩ := lstF_addr GK (by omega)
      have gc := lstF_cell GK hkl
      have hgm := HG'.out k hkl
      obtain ⟨y, hy⟩ : ∃ y, G k = y := ⟨_, rfl⟩
      rw [hy] at gc hgm
      have HN := Lib.hid (show (lstF (ngF m S G) (k + 1)).map (Value.int .i64) = (lstF (ngF m S G) k).map (Value.int .i64) ++ [.int .i64 ((ngN m S y : Nat) : Int)] by rw [lstF_succ, List.map_append, ← hy]; rfl)
      have x0 := (T0.out _ BK.out).cell 0
      have x1 := (T0.out _ BK.out).cell 1
      simp at x0 x1
      clear hy GK
      go_wp2_with (first
        | (go_at_call 159; (with_reducible refine (negv_nat y m e b1 o1 la ca b2 o2 lb cb S P _ (TR.out _ BK.out) HRT.out hgm).mono ?_); rintro e2 w2 ⟨rfl, hb2⟩; have B2 := Lib.hid (BK.out.trans (hb2.mono (by omega))); have O2 := Lib.hid (own_nextK OK.out hb2); have s2 := hb2.size; clear hb2)
        | (at_builtin; refine wpList_append_own _ rfl _ _ 23 rfl D 3 i0 (.int .i64 0) 1 8 Try.underlying23 hi hz0 hz1 hz2 rfl (by decide) _ _ _ rfl (O2.out.alloc _) ⟨w2.heap.size, 0, none⟩ 1 1 [.int .i64 ((ngN m S y : Nat) : Int)] rfl rfl (by intro j u hj; match j, hj with | 0, hj => simp at hj; subst hj; simp [Addr.add]) (by intro u hu; simp at hu; subst hu; rfl) (by unfold maxLen; omega) (by omega) (by simp; omega) ?_; intro v3 w3 hown3 hg3 _; have B3 := Lib.hid ((B2.out.alloc (by omega) (.cells #[.int .i64 ((ngN m S y : Nat) : Int)] 3)).grown hg3 (by simp; omega) (fun k hk => (O2.out.lt k hk).1)); have O3 := Lib.hid (show w3.ownsRow D 3 1 v3 (k + 1) ((lstF (ngF m S G) (k + 1)).map (.int .i64)) by rw [HN.out]; exact hown3); clear hown3 hg3))
      go_roundg (lg - (k + 1))
      case measure => omega
      case rel => exact ⟨k + 1, by omega, by omega, by go_num, O3.out, B3.out⟩
    · have hkl' : k = lg := by omega
      subst hkl'
      have PV := Lib.hid (PolV.of_row OK.out (by omega))
      have x0 := (T0.out _ BK.out).cell 0
      have x1 := (T0.out _ BK.out).cell 1
      simp at x0 x1
      go_upto_region 7 with (fail)
      refine wp_region_makersE 5 miMk (MiPhi D n r0 (ngF m S G) A0 25 (.agg #[.int .i64 m, .int .i64 e, .slice (some ⟨b1, o1, none⟩) la ca, .slice (some ⟨b2, o2, none⟩) lb cb])) (MiSh n r0 25 (.agg #[.int .i64 m, .int .i64 e, .slice (some ⟨b1, o1, none⟩) la ca, .slice (some ⟨b2, o2, none⟩) lb cb])) (mi0 n r0 25 (.agg #[.int .i64 m, .int .i64 e, .slice (some ⟨b1, o1, none⟩) la ca, .slice (some ⟨b2, o2, none⟩) lb cb])) probe (by kernel_rfl) (by kernel_rfl) MiPhi_stable (fun i v x _ => MiSh_of i v x) (fun i _ => MiSh_zero i) ?_
      intro V hV vs hvs
      obtain ⟨A3, q3, e3⟩ := (hvs 3 rfl).p3 rfl
      obtain ⟨A4, q4', e4⟩ := (hvs 4 rfl).p4 rfl
      have cW : ∃ x, extC V x := ⟨V, extC_of (Below.refl _ _)⟩
      have KX := Lib.hid (show ∀ x, extC V x → Below wr.heap.size wr x from fun x ⟨u, hu⟩ => by rw [hu]; exact below_step hV (ext_below V u))
      have GQ := ((T0.out _ BK.out).next hV).inCP
      clear hV
      simp only [List.take_succ_cons, List.take_zero, List.drop_succ_cons, List.drop_zero]
      refine wpV_quietE cW 3 0 _ _ (by decide) (by decide) ?_
      simp only [List.take_succ_cons, List.take_zero, List.drop_succ_cons, List.drop_zero]
      repeat (first
        | (refine wpQuiet_load_rowP rfl 61 (.tmp 2) rfl w.heap.size rfl _ #[.iface 25 (.agg #[.int .i64 m, .int .i64 e, .slice (some ⟨b1, o1, none⟩) la ca, .slice (some ⟨b2, o2, none⟩) lb cb]), .slice E lf cf] _ GQ Try.underlying61 rfl (by kernel_rfl) ?_; go_simp)
        | (go_big_quiet_step (fail)))
      refine wpQuiet_nil ?_
      refine wpV_make_E rfl rfl (fun x hx _ => ?_) ?_
      · unfold makesAtE
        go_simp
        refine ⟨rfl, (with_any D k 25 (.agg #[.int .i64 m, .int .i64 e, .slice (some ⟨b1, o1, none⟩) la ca, .slice (some ⟨b2, o2, none⟩) lb cb]) (.slice E lf cf) _ (ngF m S G) x (PV.out.next (KX.out x hx))).mono ?_⟩
        rintro _ x' ⟨v, rfl, ho, hb⟩
        exact ⟨_, rfl, hb, ⟨fun _ => ⟨_, rfl, by rw [← HN0.out]; exact ho⟩, fun e => absurd e (by decide)⟩, fun b hbb => by cases hbb⟩
      rw [e3]
      go_simp
      refine wpV_make_E rfl rfl (fun x hx hd => ?_) ?_
      · have h3 := (hd { on := 3, ground := .data } (by simp) rfl rfl).p3 rfl
        rw [e3] at h3
        obtain ⟨u, hu, hp⟩ := h3
        simp at hu
        subst hu
        obtain ⟨A', c', e', ho', hc', hl', _⟩ := hp
        simp only [Value.slice.injEq, true_and] at e'
        obtain ⟨rfl, rfl⟩ := e'
        have bx := BK.out.trans ((KX.out x hx).mono (hD ▸ hszk))
        have bR := TR.out x bx
        have bF := (TF.out x bx).more (hD ▸ bx.size)
        unfold makesAtE
        go_simp
        refine ⟨rfl, (plus_any F (ngF m S G) E A3 lf n cf q3 25 (.agg #[.int .i64 m, .int .i64 e, .slice (some ⟨b1, o1, none⟩) la ca, .slice (some ⟨b2, o2, none⟩) lb cb]) m e b1 o1 la ca b2 o2 lb cb S P x bR bF ho'.ints hlf (by omega) HF'.out HNL.out).mono ?_⟩
        rintro _ x' ⟨v, rfl, ho, hb⟩
        rw [HA0.out, HR0.out] at ho
        exact ⟨_, rfl, hb, ⟨fun e => absurd e (by decide), fun _ => ⟨_, rfl, ho.down (hD ▸ bx.size)⟩⟩, fun b hbb => by cases hbb⟩
      rw [e4]
      go_simp
      refine wpV_nilE ?_
      intro w7 hb7 hf _
      have h5 := (hf 4 (by decide) rfl).p4 rfl
      rw [e4] at h5
      have B7 := Lib.hid (BK.out.trans (hb7.mono (hD ▸ hszk)))
      clear hb7 hf hvs
      obtain ⟨u, hu, hp⟩ := h5
      simp at hu
      subst hu
      have P5 := Lib.hid hp
      clear hp
      have r3 := T3.out _ B7.out
      have R3 := Lib.hid r3
      have z0 := r3.cell 0
      have z1 := r3.cell 1
      have g0 := r3.frozen 0
      have g1 := r3.frozen 1
      simp at z0 z1
      clear r3 x0 x1
      go_wp2_with (fail)
      refine bodyPost_ret (v := .agg #[.iface 25 (.agg #[.int .i64 m, .int .i64 e, .slice (some ⟨b1, o1, none⟩) la ca, .slice (some ⟨b2, o2, none⟩) lb cb]), .slice A4 r0 q4']) ?_ rfl ⟨_, rfl, ((P5.out.set2 (by have := HDS.out; omega) _ _).set2 (by have := HDS.out; omega) _ _).down (by have := HDS.out; omega), ((B0.out.trans (B7.out.mono (by have := HDS.out; omega))).setCell (by simp; omega) _).setCell (by simp; omega) _⟩
      exact results_cell_row Try.results94 _ _ (w.heap.size + 1 + 1) 61 _ (0, 0) _ rfl ((R3.out.set_ 0 _).set_ 1 _) Try.underlying61 rfl (by kernel_rfl)

end Go.Proofs.Ytlcpbdbdiahmjaa



/- The program's certainInverse, and last of no coefficients. -/
namespace Go.Proofs.Ytlcpbdbdiahmjaa
open Go.RowKit Go.Shelf
set_option maxRecDepth 100000

/-- It ends in a panic that says something. -/
def Dead (e : Ending) : Prop := ∃ T u, e = .panicked [{ v := .iface T u, recovered := false }]

set_option maxHeartbeats 2000000 in
theorem certain_yes (a c : Nat) (m e b1 o1 la ca b2 o2 lb cb : Nat) (S P : Nat → Nat) (w : World) (hr : RingAt w m e b1 o1 la ca b2 o2 lb cb S P) (ha : a < m) (hc : invN m P e a = c) :
    Calls Try.prog 158 #[.agg #[.int .i64 m, .int .i64 e, .slice (some ⟨b1, o1, none⟩) la ca, .slice (some ⟨b2, o2, none⟩) lb cb], .int .i64 a] w fun e' w' => e' = .returned (.int .i64 (c : Nat)) ∧ Below w.heap.size w w' := by
  obtain ⟨c0, c1, c2, c3, hs⟩ := box4_new w (.int .i64 m) (.int .i64 e) (.slice (some ⟨b1, o1, none⟩) la ca) (.slice (some ⟨b2, o2, none⟩) lb cb) 25
  have b0 : Below w.heap.size w (w.alloc (.cells #[.int .i64 m, .int .i64 e, .slice (some ⟨b1, o1, none⟩) la ca, .slice (some ⟨b2, o2, none⟩) lb cb] 25)) := (Below.refl _ _).alloc (Nat.le_refl _) _
  obtain ⟨W, hW⟩ : ∃ W, w.alloc (.cells #[.int .i64 m, .int .i64 e, .slice (some ⟨b1, o1, none⟩) la ca, .slice (some ⟨b2, o2, none⟩) lb cb] 25) = W := ⟨_, rfl⟩
  rw [hW] at c0 c1 c2 c3 hs b0
  have R0 := Lib.hid (hr.next b0)
  have B0 := Lib.hid b0
  have HW := Lib.hid hW
  have HC := Lib.hid hc
  have hc0 : ¬ ((c : Int) < 0) := by omega
  clear hr b0 hW hc
  go_enter Try.func158, Try.ntmps158
  go_upto_region 1 with (fail)
  rw [HW.out]
  go_wp2_with (go_at_call 109; (with_reducible refine (inverse_any a m e b1 o1 la ca b2 o2 lb cb S P _ R0.out ha).mono ?_); rintro e1 w1 ⟨rfl, hb1⟩; rw [HC.out]; have B1 := Lib.hid (B0.out.trans (hb1.mono (by omega))); clear hb1)
  go_ret
  exact ⟨rfl, B1.out⟩

set_option maxHeartbeats 2000000 in
theorem certain_no (a : Nat) (m e b1 o1 la ca b2 o2 lb cb : Nat) (S P : Nat → Nat) (w : World) (hr : RingAt w m e b1 o1 la ca b2 o2 lb cb S P) (ha : a < m) (hc : invN m P e a = -1) :
    Calls Try.prog 158 #[.agg #[.int .i64 m, .int .i64 e, .slice (some ⟨b1, o1, none⟩) la ca, .slice (some ⟨b2, o2, none⟩) lb cb], .int .i64 a] w fun e' w' => Dead e' ∧ Below w.heap.size w w' := by
  obtain ⟨c0, c1, c2, c3, hs⟩ := box4_new w (.int .i64 m) (.int .i64 e) (.slice (some ⟨b1, o1, none⟩) la ca) (.slice (some ⟨b2, o2, none⟩) lb cb) 25
  have b0 : Below w.heap.size w (w.alloc (.cells #[.int .i64 m, .int .i64 e, .slice (some ⟨b1, o1, none⟩) la ca, .slice (some ⟨b2, o2, none⟩) lb cb] 25)) := (Below.refl _ _).alloc (Nat.le_refl _) _
  obtain ⟨W, hW⟩ : ∃ W, w.alloc (.cells #[.int .i64 m, .int .i64 e, .slice (some ⟨b1, o1, none⟩) la ca, .slice (some ⟨b2, o2, none⟩) lb cb] 25) = W := ⟨_, rfl⟩
  rw [hW] at c0 c1 c2 c3 hs b0
  have R0 := Lib.hid (hr.next b0)
  have B0 := Lib.hid b0
  have HW := Lib.hid hW
  have HC := Lib.hid hc
  clear hr b0 hW hc
  go_enter Try.func158, Try.ntmps158
  go_upto_region 1 with (fail)
  rw [HW.out]
  go_wp2_with (go_at_call 109; (with_reducible refine (inverse_any a m e b1 o1 la ca b2 o2 lb cb S P _ R0.out ha).mono ?_); rintro e1 w1 ⟨rfl, hb1⟩; rw [HC.out]; have B1 := Lib.hid (B0.out.trans (hb1.mono (by omega))); clear hb1)
  exact ⟨rfl, ⟨_, _, rfl⟩, B1.out⟩

set_option maxHeartbeats 2000000 in
theorem last_no (E : Option Addr) (c : Nat) (T : TypeId) (rv : Value) (w : World) :
    Calls Try.prog 91 #[.agg #[.iface T rv, .slice E 0 c]] w fun e w' => Dead e ∧ Below w.heap.size w w' := by
  obtain ⟨W, hW⟩ : ∃ W, w.alloc (.cells #[.iface T rv, .slice E 0 c] 61) = W := ⟨_, rfl⟩
  have k0 : Blk W w.heap.size 61 #[.iface T rv, .slice E 0 c] := by subst hW; exact Blk.new w _ _
  have b0 : Below w.heap.size w W := by subst hW; exact (Below.refl _ _).alloc (Nat.le_refl _) _
  have HW := Lib.hid hW
  have B0 := Lib.hid b0
  have p0 := k0.cell 0
  have p1 := k0.cell 1
  simp at p0 p1
  clear hW k0 b0
  go_enter Try.func91, Try.ntmps91
  go_upto_region 1 with (fail)
  rw [HW.out]
  go_wp2
  exact ⟨rfl, ⟨_, _, rfl⟩, B0.out⟩

end Go.Proofs.Ytlcpbdbdiahmjaa



/- The program's division where there is no inverse. -/
namespace Go.Proofs.Ytlcpbdbdiahmjaa
open Go.RowKit Go.Shelf
set_option maxRecDepth 100000

section
variable (p0 p1 q0 q1 : Value) (w : World)
theorem four_boxes : ∃ W, (((w.alloc (.cells #[p0, p1] 61)).alloc (.cells #[q0, q1] 61)).alloc (.cells #[.nilIface, .slice none 0 0] 61)).alloc (.cells #[.nilIface, .slice none 0 0] 61) = W ∧
    Blk W w.heap.size 61 #[p0, p1] ∧ Blk W (w.heap.size + 1) 61 #[q0, q1] ∧ Blk W (w.heap.size + 1 + 1) 61 #[.nilIface, .slice none 0 0] ∧ Blk W (w.heap.size + 1 + 1 + 1) 61 #[.nilIface, .slice none 0 0] ∧ Below w.heap.size w W ∧ W.heap.size = w.heap.size + 1 + 1 + 1 + 1 := by
  obtain ⟨W, hW, k0, k1, k2, b0, hs⟩ := two_boxes p0 p1 q0 q1 w
  refine ⟨_, rfl, ?_⟩
  rw [hW]
  refine ⟨k0.alloc _, k1.alloc _, k2.alloc _, ?_, b0.alloc (by omega) _, by simp [hs]⟩
  have := Blk.new W 61 #[.nilIface, .slice none 0 0]
  rw [hs] at this
  exact this
end

set_option maxHeartbeats 4000000 in
theorem divided_no (G : Nat → Nat) (E K : Option Addr) (lf lg cf cg : Nat) (T2 : TypeId) (rv2 : Value) (m e b1 o1 la ca b2 o2 lb cb : Nat) (S P : Nat → Nat) (w : World) (hr : RingAt w m e b1 o1 la ca b2 o2 lb cb S P) (hG : Ints w w.heap.size K (lg + 1) (lstF G (lg + 1))) (hlg : lg ≤ 100) (hg : G lg < m) (hc : invN m P e (G lg) = -1) :
    Calls Try.prog 48 #[.agg #[.iface 25 (.agg #[.int .i64 m, .int .i64 e, .slice (some ⟨b1, o1, none⟩) la ca, .slice (some ⟨b2, o2, none⟩) lb cb]), .slice E lf cf], .agg #[.iface T2 rv2, .slice K (lg + 1) cg]] w fun e' w' => Dead e' ∧ Below w.heap.size w w' := by
  obtain ⟨y, hy⟩ : ∃ y, G lg = y := ⟨_, rfl⟩
  have HY := Lib.hid hy
  rw [hy] at hg hc
  have q2 := rg_certain (.agg #[.int .i64 m, .int .i64 e, .slice (some ⟨b1, o1, none⟩) la ca, .slice (some ⟨b2, o2, none⟩) lb cb])
  have q4 := rg_certainA (.agg #[.int .i64 m, .int .i64 e, .slice (some ⟨b1, o1, none⟩) la ca, .slice (some ⟨b2, o2, none⟩) lb cb])
  obtain ⟨W, hW, k0, k1, k2, k3, b0, hsW⟩ := four_boxes (.iface 25 (.agg #[.int .i64 m, .int .i64 e, .slice (some ⟨b1, o1, none⟩) la ca, .slice (some ⟨b2, o2, none⟩) lb cb])) (.slice E lf cf) (.iface T2 rv2) (.slice K (lg + 1) cg) w
  have R0 := Lib.hid (hr.next b0)
  have G0 := Lib.hid (hG.next b0)
  have HW := Lib.hid hW
  have B0 := Lib.hid b0
  have K0 := Lib.hid k0
  have K1 := Lib.hid k1
  clear hr hG b0 hW k0 k1 k2 k3 hsW hy
  go_enter Try.func48, Try.ntmps48
  go_upto_region 1 with (fail)
  rw [HW.out]
  refine wp_region_makers 6 (fun _ => false) (fun _ _ _ => True) (fun _ _ => True) (fun _ => undef) probe (by kernel_rfl) (by kernel_rfl) (fun _ _ _ _ _ _ => trivial) (fun _ _ _ _ _ => trivial) (fun _ _ => trivial) ?_
  intro V hV vs _
  have cV : ∃ x, extC V x := ⟨V, extC_of (Below.refl _ _)⟩
  have GV := Lib.hid (show ∀ u, Ints (ext V u) (ext V u).heap.size K (lg + 1) (lstF G (lg + 1)) from fun u => (G0.out.next hV).next (ext_below V u))
  have p0 := (K0.out.next hV).cell 0
  simp at p0
  have GQ := (K1.out.next hV).inCP
  clear hV
  simp only [List.take_succ_cons, List.take_zero, List.drop_succ_cons, List.drop_zero]
  refine wpV_quiet cV 6 0 _ _ (by decide) (by decide) ?_
  simp only [List.take_succ_cons, List.take_zero, List.drop_succ_cons, List.drop_zero]
  repeat (first
    | (refine wpQuiet_load_rowP rfl 61 (.tmp 3) rfl (w.heap.size + 1) rfl _ #[.iface T2 rv2, .slice K (lg + 1) cg] _ GQ Try.underlying61 rfl (by kernel_rfl) ?_; go_simp)
    | (go_big_quiet_step (first
        | (go_at_call 91; with_reducible refine calls_ext ((last_any G K lg cg T2 rv2 _ (GV.out _) (by omega)))))))
  refine wpQuiet_nil ?_
  refine wpV_nil ?_
  intro w4 hb4
  rw [HY.out]
  have B4 := Lib.hid (below_step B0.out hb4)
  have R4 := Lib.hid (R0.out.next hb4)
  clear hb4 p0 GQ
  go_wp2_with (go_at_call 158; (with_reducible refine (certain_no y m e b1 o1 la ca b2 o2 lb cb S P _ R4.out hg hc).mono ?_); rintro e5 w5 ⟨⟨T5, u5, rfl⟩, hb5⟩; have B5 := Lib.hid (below_step B4.out hb5); clear hb5)
  exact ⟨rfl, ⟨_, _, rfl⟩, B5.out⟩

set_option maxHeartbeats 4000000 in
theorem divided_nil (E K : Option Addr) (lf cf cg : Nat) (T2 : TypeId) (rv2 : Value) (m e b1 o1 la ca b2 o2 lb cb : Nat) (w : World) :
    Calls Try.prog 48 #[.agg #[.iface 25 (.agg #[.int .i64 m, .int .i64 e, .slice (some ⟨b1, o1, none⟩) la ca, .slice (some ⟨b2, o2, none⟩) lb cb]), .slice E lf cf], .agg #[.iface T2 rv2, .slice K 0 cg]] w fun e' w' => Dead e' ∧ Below w.heap.size w w' := by
  have q2 := rg_certain (.agg #[.int .i64 m, .int .i64 e, .slice (some ⟨b1, o1, none⟩) la ca, .slice (some ⟨b2, o2, none⟩) lb cb])
  have q4 := rg_certainA (.agg #[.int .i64 m, .int .i64 e, .slice (some ⟨b1, o1, none⟩) la ca, .slice (some ⟨b2, o2, none⟩) lb cb])
  obtain ⟨W, hW, k0, k1, k2, k3, b0, hsW⟩ := four_boxes (.iface 25 (.agg #[.int .i64 m, .int .i64 e, .slice (some ⟨b1, o1, none⟩) la ca, .slice (some ⟨b2, o2, none⟩) lb cb])) (.slice E lf cf) (.iface T2 rv2) (.slice K 0 cg) w
  have HW := Lib.hid hW
  have B0 := Lib.hid b0
  have p0 := k0.cell 0
  have p1 := k0.cell 1
  have y0 := k1.cell 0
  have y1 := k1.cell 1
  simp at p0 p1 y0 y1
  clear b0 hW k0 k1 k2 k3 hsW
  go_enter Try.func48, Try.ntmps48
  go_upto_region 1 with (fail)
  rw [HW.out]
  refine wp_region_held_drew (S := (fun w' => w'.cell? ⟨w.heap.size, 0, none⟩ = some (.iface 25 (.agg #[.int .i64 m, .int .i64 e, .slice (some ⟨b1, o1, none⟩) la ca, .slice (some ⟨b2, o2, none⟩) lb cb])) ∧ w'.cell? ⟨w.heap.size + 1, 0, none⟩ = some (.iface T2 rv2) ∧ w'.cell? ⟨w.heap.size + 1, 1, none⟩ = some (.slice K 0 cg))) (by kernel_rfl) ?_ (fun hHeld => ?_)
  · exact ⟨p0, y0, y1⟩
  refine wpAnyH_take (i := 0) (v := ?_) rfl (by kernel_rfl) (by kernel_rfl) (by kernel_rfl) (fun _ _ _ h => h) (Or.inl ⟨by rfl, ?_⟩) (by assumption) ?_
  rotate_left
  · intro w hSw; (try dsimp only at hSw); go_simp; (try (with_reducible rfl))
  (try simp only [List.getElem_toArray, List.getElem_cons_zero, Act.put, List.setIfInBounds_toArray, List.set_cons_zero, List.set_cons_succ])
  refine wpAnyH_take (i := 1) (v := ?_) rfl (by kernel_rfl) (by kernel_rfl) (by kernel_rfl) (fun _ _ _ h => h) (Or.inl ⟨by rfl, ?_⟩) (by assumption) ?_
  rotate_left
  · intro w hSw; (try dsimp only at hSw); go_simp; (try (with_reducible rfl))
  (try simp only [List.getElem_toArray, List.getElem_cons_zero, List.getElem_cons_succ, Act.put, List.setIfInBounds_toArray, List.set_cons_zero, List.set_cons_succ])
  refine wpAnyH_take (i := 2) (v := ?_) rfl (by kernel_rfl) (by kernel_rfl) (by kernel_rfl) (fun _ _ _ h => h) (Or.inl ⟨by rfl, ?_⟩) (by assumption) ?_
  rotate_left
  · intro w hSw; (try dsimp only at hSw); go_simp; (try (with_reducible rfl))
  (try simp only [List.getElem_toArray, List.getElem_cons_zero, List.getElem_cons_succ, Act.put, List.setIfInBounds_toArray, List.set_cons_zero, List.set_cons_succ])
  refine wpAnyH_take (i := 4) (v := ?_) rfl (by kernel_rfl) (by kernel_rfl) (by kernel_rfl) (fun _ _ _ h => h) (Or.inl ⟨by rfl, ?_⟩) (by assumption) ?_
  rotate_left
  · intro w hSw; (try dsimp only at hSw); go_simp; (try (with_reducible rfl))
  (try simp only [List.getElem_toArray, List.getElem_cons_zero, List.getElem_cons_succ, Act.put, List.setIfInBounds_toArray, List.set_cons_zero, List.set_cons_succ])
  refine wpAnyH_take (i := 5) (v := ?_) rfl (by kernel_rfl) (by kernel_rfl) (by kernel_rfl) (fun _ _ _ h => h) (Or.inl ⟨by rfl, ?_⟩) (by assumption) ?_
  rotate_left
  · intro w hSw; (try dsimp only at hSw); go_simp; (try (with_reducible rfl))
  (try simp only [List.getElem_toArray, List.getElem_cons_zero, List.getElem_cons_succ, Act.put, List.setIfInBounds_toArray, List.set_cons_zero, List.set_cons_succ])
  refine wpAnyH_ready (rs := [3]) (by kernel_rfl) (by simp) ?_
  refine AllReadyH.cons (o := _) rfl (fun KK hK => ?_) AllReadyH.nil
  (try simp only [List.getElem_toArray, List.getElem_cons_zero, List.getElem_cons_succ, Act.put, List.setIfInBounds_toArray, List.set_cons_zero, List.set_cons_succ])
  go_simp
  go_at_call 91; (with_reducible refine (last_no K cg T2 rv2 _).mono ?_); rintro e5 w5 ⟨⟨T5, u5, rfl⟩, hb5⟩
  have B5 := below_step B0.out.drew hb5
  exact ⟨rfl, ⟨_, _, rfl⟩, B5⟩

end Go.Proofs.Ytlcpbdbdiahmjaa



/- The program's division where there is an inverse. -/
namespace Go.Proofs.Ytlcpbdbdiahmjaa
open Go.RowKit Go.Shelf
set_option maxRecDepth 100000

theorem run_load_pol {o : Oper} {ev : Operand → Value} {x : Operand} {g : Nat} {p0 p1 : Value} {w : World} (ho : o.op = .load 61 x) (hx : ev x = .pointer (some ⟨g, 0, none⟩)) (h : Blk w g 61 #[p0, p1]) :
    (execOp ev o).run Try.prog w = .ok (.value (.agg #[p0, p1])) w := by
  unfold execOp
  simp only [ho, hx, Instr.loadAt, Instr.sureAddr, Sem.run_bind, Sem.run_pure, Result.andThen_ok, run_loadVar_row w g _ 61 #[p0, p1] (0, 0) _ h Try.underlying61 rfl (by kernel_rfl)]

theorem results_cc {P : Program} {fn : Func} {p u : Tmp} {ty : TypeId} (h : fn.results = #[.cell p ty, .cell u ty]) (tmps : Array Value) (w : World) (g g' : Nat) (t : TypeId) (cs cs' : Array Value) (d : TypeDesc)
    (hp : tmps.getD p undef = .pointer (some ⟨g, 0, none⟩)) (hq : tmps.getD u undef = .pointer (some ⟨g', 0, none⟩)) (hg : Blk w g t cs) (hg' : Blk w g' t cs')
    (hu : P.underlying ty = some d) (hd : (match d with | .struct _ | .array _ _ => true | _ => false) = true) (hi : (P.info? ty).map (·.size) = some cs.size) (hi' : (P.info? ty).map (·.size) = some cs'.size) :
    (results fn tmps).run P w = .ok (.tuple #[.agg cs, .agg cs']) w := by
  have e : (results fn tmps).run P w = ((asAddr (tmps.getD p undef)).run P w).andThen fun a w₁ => ((loadVar ty a).run P w₁).andThen fun v w₂ => ((asAddr (tmps.getD u undef)).run P w₂).andThen fun a' w₃ => ((loadVar ty a').run P w₃).andThen fun v' w₄ => .ok (.tuple #[v, v']) w₄ := by
    simp only [results, h]
    simp [Sem.run_bind, Result.andThen]
  rw [e, hp, hq]
  simp [asAddr, run_loadVar_row w g t ty cs (0, 0) d hg hu hd hi, run_loadVar_row w g' t ty cs' (0, 0) d hg' hu hd hi']

/-- Two lists that are not empty lie in blocks of their own. -/
def Dsj (q r : Nat) (u v : Value) : Prop := q ≠ 0 → r ≠ 0 → ∀ b off c b' off' c', u = .slice (some ⟨b, off, none⟩) q c → v = .slice (some ⟨b', off', none⟩) r c' → b ≠ b'

theorem dgo_stop {m lg inv : Nat} {S P G : Nat → Nat} {s : DSt} (h : ¬ lg ≤ s.r) : ∀ f, dgo m S P G lg inv f s = s
  | 0 => rfl
  | _ + 1 => if_neg h

theorem Own.setcD {D n b i : Nat} {A : Option Addr} {xs : List Int} {w : World} {t : TypeId} {cs : Array Value} {u : Value} (h : Own w D A n xs) (hb : Blk w b t cs) (hi : ∀ (k : Nat) (x : Int), cs[k]? ≠ some (.int .i64 x)) : Own (w.setCell ⟨b, i, none⟩ u) D A n xs :=
  ⟨h.1, fun hn => by
    obtain ⟨g, off, e, hD, hlt, hc⟩ := h.2 hn
    have hne : g ≠ b := by
      rintro rfl
      have := (hc 0 hn).1
      rw [hb.cell] at this
      exact hi _ _ this
    have he : (w.setCell ⟨b, i, none⟩ u).heap[g]? = w.heap[g]? := Below.heap_setCell w ⟨b, i, none⟩ u g hne
    refine ⟨g, off, e, hD, Nat.lt_of_lt_of_le hlt ((Below.refl 0 w).setCell (p := ⟨b, i, none⟩) (Nat.zero_le _) u).size, fun k hk => ?_⟩
    rw [World.cell?_of_block (a := ⟨g, off + k, none⟩) he, World.frozen?_of_block (a := ⟨g, off + k, none⟩) he]
    exact hc k hk⟩
/-- A polynomial's memory is no box of polynomials: what is put there leaves it alone. -/
theorem PolV.setB {D b i : Nat} {w : World} {v p0 : Value} {l l' c : Nat} {A : Option Addr} {F : Nat → Nat} {T : TypeId} {rv u : Value} (h : PolV D w v l F) (hb : Blk w b 61 #[p0, .slice A l' c]) (hp : p0 = .nilIface ∨ p0 = .iface T rv) : PolV D (w.setCell ⟨b, i, none⟩ u) v l F := by
  obtain ⟨A', c', e, h1, h2⟩ := h
  refine ⟨A', c', e, h1.setcD hb (fun k x hk => ?_), h2⟩
  match k, hk with
  | 0, hk => rcases hp with rfl | rfl <;> simp at hk
  | 1, hk => simp at hk
  | k + 2, hk => simp at hk

theorem PolV.ints {D l c : Nat} {w : World} {A : Option Addr} {F : Nat → Nat} (h : PolV D w (.slice A l c) l F) : Ints w w.heap.size A l (lstF F l) := by
  obtain ⟨A', c', e, h1, _⟩ := h
  simp only [Value.slice.injEq, true_and] at e
  obtain ⟨rfl, rfl⟩ := e
  exact h1.ints
theorem PolV.shape {D l : Nat} {w : World} {v : Value} {F : Nat → Nat} (h : PolV D w v l F) : ∃ A c, v = .slice A l c := ⟨h.choose, h.choose_spec.choose, h.choose_spec.choose_spec.1⟩
theorem last_anyE (F : Nat → Nat) (E : Option Addr) (n l c : Nat) (T : TypeId) (rv : Value) (w : World) (hn : n = l + 1) (hI : Ints w w.heap.size E n (lstF F n)) (hl : l ≤ 1000) :
    Calls Try.prog 91 #[.agg #[.iface T rv, .slice E n c]] w fun e w' => e = .returned (.int .i64 (F l : Nat)) ∧ Below w.heap.size w w' := by
  subst hn
  exact last_any F E l c T rv w hI hl
theorem makesE_pol {o : Oper} {a : Act} (hop : o.op = .alloc 61) (w : World) :
    makesAtE Try.prog o a w fun v w' => ∃ g, v = .pointer (some ⟨g, 0, none⟩) ∧ w.heap.size ≤ g ∧ Blk w' g 61 #[.nilIface, .slice none 0 0] := by
  unfold makesAtE
  simp only [execOp, hop]
  go_simp
  exact ⟨(Below.refl _ _).alloc (Nat.le_refl _) _, ⟨w.heap.size, rfl, Nat.le_refl _, Blk.new w _ _⟩, fun b hb => by cases hb⟩
theorem makesAtE_mono2 {P : Program} {o : Oper} {a : Act} {w : World} {F F' : Value → World → Prop} (h : makesAtE P o a w F) (hF : ∀ v w', F v w' → F' v w') : makesAtE P o a w F' := by
  unfold makesAtE at *
  generalize (execOp a.eval o).run P w = r at *
  cases r with
  | ok n w' =>
    cases n <;> simp only [makesUponE] at h ⊢
    case value u => exact ⟨h.1, hF _ _ h.2.1, h.2.2⟩
    case enter f args => exact ⟨h.1, h.2.mono fun e w'' ⟨u, h1, h2, h3, h4⟩ => ⟨u, h1, h2, hF _ _ h3, h4⟩⟩
  | halt x w' => simp only [makesUponE] at h

/-- What a round draws in its second statement: a polynomial of one coefficient and its box. -/
structure DtPhi (D n : Nat) (N : Nat → Nat) (T : TypeId) (rv : Value) (i : Nat) (v : Value) (w : World) : Prop where
  pa : i = 10 → ∃ u, v = .agg #[.iface T rv, u] ∧ PolV D w u n N
  pb : i = 11 → ∃ g, v = .pointer (some ⟨g, 0, none⟩) ∧ D ≤ g ∧ Blk w g 61 #[.nilIface, .slice none 0 0]
structure DtSh (n : Nat) (T : TypeId) (rv : Value) (i : Nat) (v : Value) : Prop where
  pa : i = 10 → ∃ A c, v = .agg #[.iface T rv, .slice A n c]
  pb : i = 11 → ∃ g, v = .pointer (some ⟨g, 0, none⟩)
section
variable {D n : Nat} {N : Nat → Nat} {T : TypeId} {rv : Value}
theorem DtPhi_stable (i : Nat) (v : Value) (w w' : World) (h : DtPhi D n N T rv i v w) (hb : Below w.heap.size w w') : DtPhi D n N T rv i v w' := ⟨fun e => by
  obtain ⟨u, h1, h2⟩ := h.pa e
  exact ⟨u, h1, h2.next hb⟩, fun e => by
  obtain ⟨g, h1, h2, h3⟩ := h.pb e
  exact ⟨g, h1, h2, h3.next hb⟩⟩
theorem DtSh_of (i : Nat) (v : Value) (w : World) (h : DtPhi D n N T rv i v w) : DtSh n T rv i v := ⟨fun e => by
  obtain ⟨u, h1, A, c, h2, _⟩ := h.pa e
  exact ⟨A, c, by rw [h1, h2]⟩, fun e => by
  obtain ⟨g, h1, _⟩ := h.pb e
  exact ⟨g, h1⟩⟩
def dt0 (n : Nat) (T : TypeId) (rv : Value) (i : Nat) : Value := if i = 10 then .agg #[.iface T rv, .slice none n 0] else .pointer (some ⟨0, 0, none⟩)
theorem DtSh_zero (i : Nat) : DtSh n T rv i (dt0 n T rv i) := ⟨fun e => by subst e; exact ⟨none, 0, rfl⟩, fun e => by subst e; exact ⟨0, rfl⟩⟩
def dtMk (i : Nat) : Bool := i == 10 || i == 11
end

set_option maxHeartbeats 8000000 in
theorem divided_yes (F G : Nat → Nat) (E K : Option Addr) (B lf lg cf cg iv : Nat) (T2 : TypeId) (rv2 : Value) (m e b1 o1 la ca b2 o2 lb cb : Nat) (S P : Nat → Nat) (w : World) (hr : RingAt w m e b1 o1 la ca b2 o2 lb cb S P) (R : RTab m S P e) (hB : B ≤ w.heap.size) (hF : PolV B w (.slice E lf cf) lf F) (hG : Ints w w.heap.size K (lg + 1) (lstF G (lg + 1))) (hlf : lf ≤ 90) (hlg : lg + 1 ≤ 90) (ht : tlN F lf = lf) (hf : ∀ i, i < lf → F i < m) (hg : ∀ i, i < lg + 1 → G i < m) (hc : invN m P e (G lg) = iv) (hiv : iv < m) (hun : P (G lg * m + iv) = e) :
    Calls Try.prog 48 #[.agg #[.iface 25 (.agg #[.int .i64 m, .int .i64 e, .slice (some ⟨b1, o1, none⟩) la ca, .slice (some ⟨b2, o2, none⟩) lb cb]), .slice E lf cf], .agg #[.iface T2 rv2, .slice K (lg + 1) cg]] w fun e' w' => ∃ u v, e' = .returned (.tuple #[.agg #[.iface 25 (.agg #[.int .i64 m, .int .i64 e, .slice (some ⟨b1, o1, none⟩) la ca, .slice (some ⟨b2, o2, none⟩) lb cb]), u], .agg #[.iface 25 (.agg #[.int .i64 m, .int .i64 e, .slice (some ⟨b1, o1, none⟩) la ca, .slice (some ⟨b2, o2, none⟩) lb cb]), v]]) ∧
      PolV B w' u (dgo m S P G (lg + 1) iv lf ⟨fun _ => 0, 0, F, lf⟩).q (dgo m S P G (lg + 1) iv lf ⟨fun _ => 0, 0, F, lf⟩).Q ∧ PolV B w' v (dgo m S P G (lg + 1) iv lf ⟨fun _ => 0, 0, F, lf⟩).r (dgo m S P G (lg + 1) iv lf ⟨fun _ => 0, 0, F, lf⟩).R ∧ Dsj (dgo m S P G (lg + 1) iv lf ⟨fun _ => 0, 0, F, lf⟩).q (dgo m S P G (lg + 1) iv lf ⟨fun _ => 0, 0, F, lf⟩).r u v ∧ Below w.heap.size w w' := by
  obtain ⟨y, hy⟩ : ∃ y, G lg = y := ⟨_, rfl⟩
  have HY := Lib.hid hy
  have HIV := Lib.hid hiv
  have HUN := Lib.hid (show P (G (lg + 1 - 1) * m + iv) = e from hun)
  have hgy : y < m := by rw [← hy]; exact hg lg (by omega)
  rw [hy] at hc
  have q2 := rg_certain (.agg #[.int .i64 m, .int .i64 e, .slice (some ⟨b1, o1, none⟩) la ca, .slice (some ⟨b2, o2, none⟩) lb cb])
  have q4 := rg_certainA (.agg #[.int .i64 m, .int .i64 e, .slice (some ⟨b1, o1, none⟩) la ca, .slice (some ⟨b2, o2, none⟩) lb cb])
  have q5 := rg_product (.agg #[.int .i64 m, .int .i64 e, .slice (some ⟨b1, o1, none⟩) la ca, .slice (some ⟨b2, o2, none⟩) lb cb])
  have q6 := rg_productA (.agg #[.int .i64 m, .int .i64 e, .slice (some ⟨b1, o1, none⟩) la ca, .slice (some ⟨b2, o2, none⟩) lb cb])
  obtain ⟨W, hW, k0, k1, k2, k3, b0, hsW⟩ := four_boxes (.iface 25 (.agg #[.int .i64 m, .int .i64 e, .slice (some ⟨b1, o1, none⟩) la ca, .slice (some ⟨b2, o2, none⟩) lb cb])) (.slice E lf cf) (.iface T2 rv2) (.slice K (lg + 1) cg) w
  have HRw := Lib.hid hr
  have HGw := Lib.hid hG
  have R0 := Lib.hid (hr.next b0)
  have G0 := Lib.hid (hG.next b0)
  have F0 := Lib.hid (hF.next b0)
  have HW := Lib.hid hW
  have B0 := Lib.hid b0
  have K0 := Lib.hid k0
  have K1 := Lib.hid k1
  have K2 := Lib.hid k2
  have K3 := Lib.hid k3
  have HSW := Lib.hid hsW
  have HG' := Lib.hid hg
  have HF' := Lib.hid hf
  have HRT := Lib.hid R
  have p0 := k0.cell 0
  simp at p0
  clear hr hG hF b0 hW k0 k1 k2 k3 hsW hy hg hf R hiv hun
  go_enter Try.func48, Try.ntmps48
  go_upto_region 1 with (fail)
  rw [HW.out]
  refine wp_region_makers 7 (fun _ => false) (fun _ _ _ => True) (fun _ _ => True) (fun _ => undef) probe (by kernel_rfl) (by kernel_rfl) (fun _ _ _ _ _ _ => trivial) (fun _ _ _ _ _ => trivial) (fun _ _ => trivial) ?_
  intro V hV vs _
  have cV : ∃ x, extC V x := ⟨V, extC_of (Below.refl _ _)⟩
  have GV := Lib.hid (show ∀ u, Ints (ext V u) (ext V u).heap.size K (lg + 1) (lstF G (lg + 1)) from fun u => (G0.out.next hV).next (ext_below V u))
  have RV := Lib.hid (show ∀ u, RingAt (ext V u) m e b1 o1 la ca b2 o2 lb cb S P from fun u => (R0.out.next hV).next (ext_below V u))
  have p0 := (K0.out.next hV).cell 0
  simp at p0
  have GQ := (K1.out.next hV).inCP
  clear hV
  simp only [List.take_succ_cons, List.take_zero, List.drop_succ_cons, List.drop_zero]
  refine wpV_quiet cV 7 0 _ _ (by decide) (by decide) ?_
  simp only [List.take_succ_cons, List.take_zero, List.drop_succ_cons, List.drop_zero]
  repeat (first
    | (refine wpQuiet_load_rowP rfl 61 (.tmp 3) rfl (w.heap.size + 1) rfl _ #[.iface T2 rv2, .slice K (lg + 1) cg] _ GQ Try.underlying61 rfl (by kernel_rfl) ?_; go_simp)
    | (go_big_quiet_step (first
        | (go_at_call 91; with_reducible refine calls_ext ((last_any G K lg cg T2 rv2 _ (GV.out _) (by omega))))
        | (go_at_call 158; rw [HY.out]; with_reducible refine calls_ext (certain_yes y iv m e b1 o1 la ca b2 o2 lb cb S P _ (RV.out _) hgy hc)))))
  refine wpQuiet_nil ?_
  refine wpV_nil ?_
  intro w4 hb4
  have B4 := Lib.hid (below_step B0.out hb4)
  have B45 := Lib.hid hb4
  have R4 := Lib.hid (R0.out.next hb4)
  have G4 := Lib.hid (G0.out.next hb4)
  have F4 := Lib.hid (F0.out.next hb4)
  have L0 := Lib.hid (K0.out.next hb4)
  have L1 := Lib.hid (K1.out.next hb4)
  have L2 := Lib.hid (K2.out.next hb4)
  have L3 := Lib.hid (K3.out.next hb4)
  clear hb4 p0 GQ
  go_upto_region 2 with (fail)
  refine wp_region_held_drew (S := fun w' => Blk w' w.heap.size 61 #[.iface 25 (.agg #[.int .i64 m, .int .i64 e, .slice (some ⟨b1, o1, none⟩) la ca, .slice (some ⟨b2, o2, none⟩) lb cb]), .slice E lf cf]) (by kernel_rfl) (L0.out.next ((Below.refl _ _).drew)) (fun hHeld => ?_)
  refine wpAnyH_take (i := 0) (v := .agg #[.iface 25 (.agg #[.int .i64 m, .int .i64 e, .slice (some ⟨b1, o1, none⟩) la ca, .slice (some ⟨b2, o2, none⟩) lb cb]), .slice E lf cf]) rfl (by kernel_rfl) (by kernel_rfl) (by kernel_rfl) (fun _ _ _ h => h) (Or.inl ⟨by rfl, fun _ hSw => run_load_pol rfl rfl hSw⟩) (by assumption) ?_
  (try simp only [List.getElem_toArray, List.getElem_cons_zero, Act.put, List.setIfInBounds_toArray, List.set_cons_zero, List.set_cons_succ])
  refine wpAnyH_take (i := 2) (v := .agg #[.iface 25 (.agg #[.int .i64 m, .int .i64 e, .slice (some ⟨b1, o1, none⟩) la ca, .slice (some ⟨b2, o2, none⟩) lb cb]), .slice E lf cf]) rfl (by kernel_rfl) (by kernel_rfl) (by kernel_rfl) (fun _ _ _ h => h) (Or.inl ⟨by rfl, fun _ hSw => run_load_pol rfl rfl hSw⟩) (by assumption) ?_
  (try simp only [List.getElem_toArray, List.getElem_cons_zero, List.getElem_cons_succ, Act.put, List.setIfInBounds_toArray, List.set_cons_zero, List.set_cons_succ])
  refine wpAnyH_ready (rs := [1]) (by kernel_rfl) (by simp) ?_
  refine AllReadyH.cons (o := _) rfl (fun KK hK => ?_) AllReadyH.nil
  (try simp only [List.getElem_toArray, List.getElem_cons_zero, List.getElem_cons_succ, Act.put, List.setIfInBounds_toArray, List.set_cons_zero, List.set_cons_succ])
  go_simp
  go_at_call 92; (with_reducible refine (with_any w4.heap.size 0 25 (.agg #[.int .i64 m, .int .i64 e, .slice (some ⟨b1, o1, none⟩) la ca, .slice (some ⟨b2, o2, none⟩) lb cb]) (.slice E lf cf) (.slice none 0 0) (fun _ => 0) _ PolV.nil).mono ?_); rintro e5 w5 ⟨v5, rfl, hp5, hb5⟩
  rw [show tlN (fun _ => (0 : Nat)) 0 = 0 from rfl] at hp5
  obtain ⟨A5, c5, rfl, hr5⟩ := hp5
  have P5 := Lib.hid (show PolV w4.heap.size w5 (.slice A5 0 c5) 0 (fun _ => 0) from ⟨A5, c5, rfl, hr5⟩)
  have B5 := Lib.hid (below_step B4.out.drew hb5)
  have D5 := Lib.hid (((Below.refl _ _).drew).trans hb5 : Below w4.heap.size w4 w5)
  have r2 := L2.out.next D5.out
  have r3 := L3.out.next D5.out
  have z0 := r2.cell 0
  have z1 := r2.cell 1
  have g0 := r2.frozen 0
  have g1 := r2.frozen 1
  simp at z0 z1
  go_simp
  refine hK.out _ _ (L0.out.next D5.out) (fun hHeld => ?_)
  clear hK KK
  (try simp only [List.getElem_toArray, List.getElem_cons_zero, List.getElem_cons_succ, Act.put, List.setIfInBounds_toArray, List.set_cons_zero, List.set_cons_succ])
  refine wpAnyH_ready (rs := [3]) (by kernel_rfl) (by simp) ?_
  refine AllReadyH.cons (o := _) rfl (fun KK hK => ?_) AllReadyH.nil
  (try simp only [List.getElem_toArray, List.getElem_cons_zero, List.getElem_cons_succ, Act.put])
  go_simp
  refine hK.out _ _ (((L0.out.next D5.out).far (by simp; omega) _).far (by simp; omega) _) (fun hHeld => ?_)
  clear hK KK g0 g1
  obtain ⟨W6, hW6⟩ : ∃ W6, (w5.setCell ⟨w.heap.size + 1 + 1, 0, none⟩ (.iface 25 (.agg #[.int .i64 m, .int .i64 e, .slice (some ⟨b1, o1, none⟩) la ca, .slice (some ⟨b2, o2, none⟩) lb cb]))).setCell ⟨w.heap.size + 1 + 1, 1, none⟩ (.slice A5 0 c5) = W6 := ⟨_, rfl⟩
  have m2 : Blk W6 (w.heap.size + 1 + 1) 61 #[.iface 25 (.agg #[.int .i64 m, .int .i64 e, .slice (some ⟨b1, o1, none⟩) la ca, .slice (some ⟨b2, o2, none⟩) lb cb]), .slice A5 0 c5] := by subst hW6; exact (r2.set_ 0 _).set_ 1 _
  have m3 : Blk W6 (w.heap.size + 1 + 1 + 1) 61 #[.nilIface, .slice none 0 0] := by subst hW6; exact (r3.far (by simp) _).far (by simp) _
  have hP6 : PolV B W6 (.slice A5 0 c5) 0 (fun _ => 0) := by subst hW6; exact ((P5.out.down (by have := B4.out.size; omega)).setB r2 (T := 0) (rv := .nilIface) (.inl rfl)).setB (r2.set_ 0 _) (.inr rfl)
  have hF6 : PolV B W6 (.slice E lf cf) lf F := by subst hW6; exact ((F4.out.next D5.out).setB r2 (T := 0) (rv := .nilIface) (.inl rfl)).setB (r2.set_ 0 _) (.inr rfl)
  have b6 : Below (w.heap.size + 1 + 1) W6 W6 := Below.refl _ _
  rw [hW6]
  (try simp only [List.getElem_toArray, List.getElem_cons_zero, List.getElem_cons_succ, Act.put, List.setIfInBounds_toArray, List.set_cons_zero, List.set_cons_succ])
  refine wpAnyH_ready (rs := [4]) (by kernel_rfl) (by simp) ?_
  refine AllReadyH.cons (o := _) rfl (fun KK hK => ?_) AllReadyH.nil
  (try simp only [List.getElem_toArray, List.getElem_cons_zero, List.getElem_cons_succ, Act.put])
  have y0 := m3.cell 0
  have y1 := m3.cell 1
  have g0 := m3.frozen 0
  have g1 := m3.frozen 1
  simp at y0 y1
  go_simp
  have s6 : Blk W6 w.heap.size 61 #[.iface 25 (.agg #[.int .i64 m, .int .i64 e, .slice (some ⟨b1, o1, none⟩) la ca, .slice (some ⟨b2, o2, none⟩) lb cb]), .slice E lf cf] := by rw [← hW6]; exact hHeld
  have ne3 : w.heap.size ≠ w.heap.size + 1 + 1 + 1 := by omega
  refine hK.out _ _ ((s6.far (p := ⟨w.heap.size + 1 + 1 + 1, 0, none⟩) ne3 _).far (p := ⟨w.heap.size + 1 + 1 + 1, 1, none⟩) ne3 _) (fun hHeld => ?_)
  clear hK KK g0 g1
  obtain ⟨W7, hW7⟩ : ∃ W7, (W6.setCell ⟨w.heap.size + 1 + 1 + 1, 0, none⟩ (.iface 25 (.agg #[.int .i64 m, .int .i64 e, .slice (some ⟨b1, o1, none⟩) la ca, .slice (some ⟨b2, o2, none⟩) lb cb]))).setCell ⟨w.heap.size + 1 + 1 + 1, 1, none⟩ (.slice E lf cf) = W7 := ⟨_, rfl⟩
  have n2 : Blk W7 (w.heap.size + 1 + 1) 61 #[.iface 25 (.agg #[.int .i64 m, .int .i64 e, .slice (some ⟨b1, o1, none⟩) la ca, .slice (some ⟨b2, o2, none⟩) lb cb]), .slice A5 0 c5] := by subst hW7; exact (m2.far (by simp) _).far (by simp) _
  have n3 : Blk W7 (w.heap.size + 1 + 1 + 1) 61 #[.iface 25 (.agg #[.int .i64 m, .int .i64 e, .slice (some ⟨b1, o1, none⟩) la ca, .slice (some ⟨b2, o2, none⟩) lb cb]), .slice E lf cf] := by subst hW7; exact (m3.set_ 0 _).set_ 1 _
  have hP7 : PolV B W7 (.slice A5 0 c5) 0 (fun _ => 0) := by subst hW7; exact (hP6.setB m3 (T := 0) (rv := .nilIface) (.inl rfl)).setB (m3.set_ 0 _) (.inr rfl)
  have hF7 : PolV B W7 (.slice E lf cf) lf F := by subst hW7; exact (hF6.setB m3 (T := 0) (rv := .nilIface) (.inl rfl)).setB (m3.set_ 0 _) (.inr rfl)
  have b7 : Below (w.heap.size + 1 + 1) W W7 := by
    have h5 : Below (w.heap.size + 1 + 1) W w5 := (B45.out.trans (D5.out.mono (by have := B45.out.size; have := HSW.out; omega))).mono (by have := HSW.out; omega)
    have h6 : Below (w.heap.size + 1 + 1) W W6 := by subst hW6; exact (h5.setCell (by simp) _).setCell (by simp) _
    subst hW7; exact (h6.setCell (by simp) _).setCell (by simp) _
  rw [hW7]
  (try simp only [List.getElem_toArray, List.getElem_cons_zero, List.getElem_cons_succ, Act.put, List.setIfInBounds_toArray, List.set_cons_zero, List.set_cons_succ])
  refine wpAnyH_done (by kernel_rfl) ?_ _
  have N2 := Lib.hid n2
  have N3 := Lib.hid n3
  have P7 := Lib.hid hP7
  have F7 := Lib.hid hF7
  have B7 := Lib.hid b7
  clear m2 m3 hP6 hF6 b6 hHeld r2 r3 z0 z1 y0 y1 n2 n3 hP7 hF7 b7 hW6 hW7 s6 hb5 hr5
  obtain ⟨Z, hZ⟩ : ∃ Z, dgo m S P G (lg + 1) iv lf ⟨fun _ => 0, 0, F, lf⟩ = Z := ⟨_, rfl⟩
  have HZ := Lib.hid hZ
  clear hZ
  go_wp2_with (fail)
  go_loopg [] lf (fun g wr => ∃ (s : DSt) (d : Nat) (A1 A2 : Option Addr) (c1 c2 : Nat), Blk wr (w.heap.size + 1 + 1) 61 #[.iface 25 (.agg #[.int .i64 m, .int .i64 e, .slice (some ⟨b1, o1, none⟩) la ca, .slice (some ⟨b2, o2, none⟩) lb cb]), .slice A1 s.q c1] ∧ Blk wr (w.heap.size + 1 + 1 + 1) 61 #[.iface 25 (.agg #[.int .i64 m, .int .i64 e, .slice (some ⟨b1, o1, none⟩) la ca, .slice (some ⟨b2, o2, none⟩) lb cb]), .slice A2 s.r c2] ∧ PolV B wr (.slice A1 s.q c1) s.q s.Q ∧ PolV B wr (.slice A2 s.r c2) s.r s.R ∧ (s.q ≠ 0 → s.r ≠ 0 → ∀ b off b' off', A1 = some ⟨b, off, none⟩ → A2 = some ⟨b', off', none⟩ → b ≠ b') ∧ Below (w.heap.size + 1 + 1) W wr ∧ s.r ≤ g ∧ DInv m S P F lf G (lg + 1) iv d s ∧ dgo m S P G (lg + 1) iv g s = Z)
  case atStart => exact ⟨⟨fun _ => 0, 0, F, lf⟩, 0, A5, E, c5, cf, N2.out, N3.out, P7.out, F7.out, (fun h => absurd rfl h), B7.out, Nat.le_refl _, DInv.start HF'.out ht, HZ.out⟩
  case round =>
    obtain ⟨s, d, A1, A2, c1, c2, m2, m3, hq, hr, hap, hb, hsg, hinv, hgo⟩ := hrel
    have M2 := Lib.hid m2
    have M3 := Lib.hid m3
    have PQ := Lib.hid hq
    have PR := Lib.hid hr
    have HAP := Lib.hid hap
    have BK := Lib.hid hb
    have HI := Lib.hid hinv
    have HGO := Lib.hid hgo
    have m1 := K1.out.below BK.out (by omega)
    have x0 := m1.cell 0
    have x1 := m1.cell 1
    have y0 := m2.cell 0
    have y1 := m2.cell 1
    have z0 := m3.cell 0
    have z1 := m3.cell 1
    simp at x0 x1 y0 y1 z0 z1
    clear m1 m2 m3 hq hr hap hb hinv hgo
    by_cases hlr : lg + 1 ≤ s.r
    · have hki : ((lg + 1 : Nat) : Int) ≤ ((s.r : Nat) : Int) := by omega
      obtain ⟨g', rfl⟩ : ∃ g', gk = g' + 1 := ⟨gk - 1, by omega⟩
      have hrl := HI.out.rl
      have hdn := HI.out.dn
      obtain ⟨k, hk⟩ : ∃ k, s.r = k + (lg + 1) := ⟨s.r - (lg + 1), by omega⟩
      obtain ⟨t, ht⟩ : ∃ t, P (s.R (s.r - 1) * m + iv) = t := ⟨_, rfl⟩
      have HX := Lib.hid (HI.out.rb (s.r - 1) (by omega))
      have hivm := HIV.out
      have htm : t < m := by rw [← ht]; exact HRT.out.pc HX.out hivm
      obtain ⟨x, hx⟩ : ∃ x, s.R (s.r - 1) = x := ⟨_, rfl⟩
      have hxm : x < m := by rw [← hx]; exact HX.out
      have HXX := Lib.hid hx
      have HT := Lib.hid (show P (x * m + iv) = t by rw [← hx]; exact ht)
      -- the next state
      have HN1 := Lib.hid ((DInv.skips HRT.out HF'.out HG'.out hivm (by omega) (lf - s.r - d) d HI.out (by omega) (by omega)).step HRT.out HF'.out HG'.out hivm (by omega) HUN.out (by omega) (by omega))
      have HGO2 := Lib.hid (show dgo m S P G (lg + 1) iv g' (dstep m S P G (lg + 1) iv s) = Z by rw [← HGO.out]; exact (if_pos hlr).symm)
      obtain ⟨Q1, hQ1⟩ : ∃ Q1, addF m S s.Q s.q (monF k t) (monL k t) = Q1 := ⟨_, rfl⟩
      obtain ⟨q1, hq1⟩ : ∃ q1, tlN Q1 (max s.q (monL k t)) = q1 := ⟨_, rfl⟩
      obtain ⟨M9, hM9⟩ : ∃ M9, prdF m S P G (lg + 1) k t = M9 := ⟨_, rfl⟩
      obtain ⟨n9, hn9⟩ : ∃ n9, prdK m S P G (lg + 1) k t = n9 := ⟨_, rfl⟩
      obtain ⟨n2, hn2⟩ : ∃ n2, tlN (ngF m S M9) n9 = n2 := ⟨_, rfl⟩
      obtain ⟨R9, hR9⟩ : ∃ R9, addF m S s.R s.r (ngF m S M9) n2 = R9 := ⟨_, rfl⟩
      obtain ⟨r9, hr9⟩ : ∃ r9, tlN R9 (max s.r n2) = r9 := ⟨_, rfl⟩
      have HST := Lib.hid (show dstep m S P G (lg + 1) iv s = ⟨Q1, q1, R9, r9⟩ by
        unfold dstep
        simp only [ht, show s.r - (lg + 1) = k by omega, hQ1, hq1, hM9, hn9, hn2, hR9, hr9])
      have HQ1 := Lib.hid hQ1
      have HQ2 := Lib.hid hq1
      have HM9 := Lib.hid hM9
      have HN9 := Lib.hid hn9
      have HN2 := Lib.hid hn2
      have HR9 := Lib.hid hR9
      have HR2 := Lib.hid hr9
      have hn9l : n9 ≤ monL k t + (lg + 1) := by rw [← hn9]; exact tl_le _
      have HM9B := Lib.hid (show ∀ i, i < n9 → M9 i < m from fun i _ => by
        rw [← hM9]
        exact mul_lt HRT.out.hm HRT.out.sl HRT.out.pl (fun i _ => mon_lt HRT.out.hm htm i) HG'.out _ (Nat.le_refl _) i)
      have HMB := Lib.hid (show ∀ i, i < monL k t → monF k t i < m from fun i _ => mon_lt HRT.out.hm htm i)
      clear hQ1 hq1 hM9 hn9 hn2 hR9 hr9
      have HRL := HN1.out.rl
      have hk90 : k + 1 ≤ 90 := by omega
      have hml : monL k t ≤ k + 1 := tl_le _
      have hn9s : n9 ≤ 91 := by omega
      have wk : IntKind.i64.wrap (((s.r : Nat) : Int) - ((lg : Int) + 1)) = (k : Int) := by rw [IntWalk.i64_in _ (by omega)]; omega
      have wk2 : IntKind.i64.wrap (((s.r : Nat) : Int) - ((lg + 1 : Nat) : Int)) = (k : Int) := by rw [IntWalk.i64_in _ (by omega)]; omega
      have HK := Lib.hid hk
      have BWW := Lib.hid (B0.out.trans (BK.out.mono (by omega)))
      have HRr := Lib.hid (HRw.out.next BWW.out)
      have HGr := Lib.hid (HGw.out.next BWW.out)
      have m0 := K0.out.below BK.out (by omega)
      have v0 := m0.cell 0
      have v1 := m0.cell 1
      simp at v0 v1
      have M0 := Lib.hid m0
      have M1 := Lib.hid (K1.out.below BK.out (by omega))
      have HQB := Lib.hid (show ∀ i, i < s.q → s.Q i < m from HI.out.qb)
      have HRB := Lib.hid (show ∀ i, i < s.r → s.R i < m from HI.out.rb)
      have hsz := BK.out.size
      have hql := HI.out.ql
      have hsr0 : s.r ≤ 90 := by omega
      have hsq0 : s.q ≤ 91 := by omega
      have hsr1 : s.r = s.r - 1 + 1 := by omega
      have HS1 := Lib.hid hsr1
      have hwr : w.heap.size + 1 + 1 + 1 < wr.heap.size := M3.out.lt
      clear hk ht hx hivm hsr1 m0
      clear hsz
      go_upto_region 5 with (fail)
      refine wp_region_makersE 12 dtMk (DtPhi wr.heap.size (monL k t) (monF k t) 25 (.agg #[.int .i64 m, .int .i64 e, .slice (some ⟨b1, o1, none⟩) la ca, .slice (some ⟨b2, o2, none⟩) lb cb])) (DtSh (monL k t) 25 (.agg #[.int .i64 m, .int .i64 e, .slice (some ⟨b1, o1, none⟩) la ca, .slice (some ⟨b2, o2, none⟩) lb cb])) (dt0 (monL k t) 25 (.agg #[.int .i64 m, .int .i64 e, .slice (some ⟨b1, o1, none⟩) la ca, .slice (some ⟨b2, o2, none⟩) lb cb])) probe (by kernel_rfl) (by kernel_rfl) DtPhi_stable (fun i v x _ => DtSh_of i v x) (fun i _ => DtSh_zero i) ?_
      intro V hV vs hvs
      obtain ⟨At, ct, e10⟩ := (hvs 10 rfl).pa rfl
      obtain ⟨gt, e11⟩ := (hvs 11 rfl).pb rfl
      have cW : ∃ x, extC V x := ⟨V, extC_of (Below.refl _ _)⟩
      have GQ0 := (M0.out.next hV).inCP
      have GQ3 := (M3.out.next hV).inCP
      have KX := Lib.hid (show ∀ x, extC V x → wr.heap.size ≤ x.heap.size from fun x ⟨u, hu⟩ => by rw [hu]; exact Nat.le_trans hV.size (ext_below V u).size)
      have RVV := Lib.hid (show ∀ u, RingAt (ext V u) m e b1 o1 la ca b2 o2 lb cb S P from fun u => (HRr.out.next hV).next (ext_below V u))
      have IVV := Lib.hid (show ∀ u, Ints (ext V u) (ext V u).heap.size A2 s.r (lstF s.R s.r) from fun u => ((PR.out.next hV).next (ext_below V u)).ints)
      clear v0 v1
      have v0 := (M0.out.next hV).cell 0
      simp at v0
      have hivm := HIV.out
      clear hV x0 x1 y0 y1 z0 z1
      simp only [List.take_succ_cons, List.take_zero, List.drop_succ_cons, List.drop_zero]
      refine wpV_quietE cW 10 0 _ _ (by decide) (by decide) ?_
      simp only [List.take_succ_cons, List.take_zero, List.drop_succ_cons, List.drop_zero]
      repeat (first
        | (refine wpQuiet_load_rowP rfl 61 (.tmp 2) rfl w.heap.size rfl _ #[.iface 25 (.agg #[.int .i64 m, .int .i64 e, .slice (some ⟨b1, o1, none⟩) la ca, .slice (some ⟨b2, o2, none⟩) lb cb]), .slice E lf cf] _ GQ0 Try.underlying61 rfl (by kernel_rfl) ?_; go_simp)
        | (refine wpQuiet_load_rowP rfl 61 (.tmp 5) rfl (w.heap.size + 1 + 1 + 1) rfl _ #[.iface 25 (.agg #[.int .i64 m, .int .i64 e, .slice (some ⟨b1, o1, none⟩) la ca, .slice (some ⟨b2, o2, none⟩) lb cb]), .slice A2 s.r c2] _ GQ3 Try.underlying61 rfl (by kernel_rfl) ?_; go_simp)
        | (go_big_quiet_step (first
            | (go_at_call 91; with_reducible refine calls_ext ((last_anyE s.R A2 s.r (s.r - 1) c2 25 (.agg #[.int .i64 m, .int .i64 e, .slice (some ⟨b1, o1, none⟩) la ca, .slice (some ⟨b2, o2, none⟩) lb cb]) _ HS1.out (IVV.out _) (by omega))))
            | (go_at_call 78; rw [HXX.out]; with_reducible refine calls_ext (product_any x iv m e b1 o1 la ca b2 o2 lb cb S P _ (RVV.out _) hxm hivm)))))
      refine wpQuiet_nil ?_
      rw [HT.out]
      refine wpV_make_E rfl rfl (fun x' hx' _ => ?_) ?_
      · unfold makesAtE
        go_simp
        refine ⟨rfl, (term_any k t 25 (.agg #[.int .i64 m, .int .i64 e, .slice (some ⟨b1, o1, none⟩) la ca, .slice (some ⟨b2, o2, none⟩) lb cb]) (.slice E lf cf) x' (by omega)).mono ?_⟩
        rintro _ x'' ⟨v, rfl, ho, hb⟩
        exact ⟨_, rfl, hb, ⟨fun _ => ⟨_, rfl, ho.down (KX.out x' hx')⟩, fun e => absurd e (by decide)⟩, fun b hbb => by cases hbb⟩
      rw [e10]
      go_simp
      refine wpV_make_E rfl rfl (fun x' hx' _ => makesAtE_mono2 (makesE_pol rfl x') (fun v x'' h => ?_)) ?_
      · obtain ⟨g, h1, h2, h3⟩ := h
        exact ⟨fun e => absurd e (by decide), fun _ => ⟨g, h1, Nat.le_trans (KX.out x' hx') h2, h3⟩⟩
      rw [e11]
      go_simp
      refine wpV_nilE ?_
      intro w5 hb5 hf _
      have h10 := (hf 10 (by decide) rfl).pa rfl
      have h11 := (hf 11 (by decide) rfl).pb rfl
      rw [e10] at h10
      rw [e11] at h11
      obtain ⟨ut, hut, hpt⟩ := h10
      obtain ⟨gt', hgt, hgD, r8⟩ := h11
      simp at hut hgt
      subst hut hgt
      have z0 := r8.cell 0
      have z1 := r8.cell 1
      have g0 := r8.frozen 0
      have g1 := r8.frozen 1
      simp at z0 z1
      clear hf hvs e10 e11 v0 GQ0 GQ3
      go_upto_region 6 with (fail)
      obtain ⟨W8, hW8⟩ : ∃ W8, (w5.setCell ⟨gt, 0, none⟩ (.iface 25 (.agg #[.int .i64 m, .int .i64 e, .slice (some ⟨b1, o1, none⟩) la ca, .slice (some ⟨b2, o2, none⟩) lb cb]))).setCell ⟨gt, 1, none⟩ (.slice At (monL k t) ct) = W8 := ⟨_, rfl⟩
      have n2' : w.heap.size + 1 + 1 ≠ gt := by omega
      have n3' : w.heap.size + 1 + 1 + 1 ≠ gt := by omega
      have T8 := Lib.hid (show Blk W8 gt 61 #[.iface 25 (.agg #[.int .i64 m, .int .i64 e, .slice (some ⟨b1, o1, none⟩) la ca, .slice (some ⟨b2, o2, none⟩) lb cb]), .slice At (monL k t) ct] by subst hW8; exact (r8.set_ 0 _).set_ 1 _)
      have U8 := Lib.hid (show Blk W8 (w.heap.size + 1 + 1) 61 #[.iface 25 (.agg #[.int .i64 m, .int .i64 e, .slice (some ⟨b1, o1, none⟩) la ca, .slice (some ⟨b2, o2, none⟩) lb cb]), .slice A1 s.q c1] by subst hW8; exact ((M2.out.next hb5).far (p := ⟨gt, 0, none⟩) n2' _).far (p := ⟨gt, 1, none⟩) n2' _)
      have X8 := Lib.hid (show Blk W8 (w.heap.size + 1 + 1 + 1) 61 #[.iface 25 (.agg #[.int .i64 m, .int .i64 e, .slice (some ⟨b1, o1, none⟩) la ca, .slice (some ⟨b2, o2, none⟩) lb cb]), .slice A2 s.r c2] by subst hW8; exact ((M3.out.next hb5).far (p := ⟨gt, 0, none⟩) n3' _).far (p := ⟨gt, 1, none⟩) n3' _)
      have PT8 := Lib.hid (show PolV wr.heap.size W8 (.slice At (monL k t) ct) (monL k t) (monF k t) by subst hW8; exact (hpt.setB r8 (T := 0) (rv := .nilIface) (.inl rfl)).setB (r8.set_ 0 _) (.inr rfl))
      have PQ8 := Lib.hid (show PolV B W8 (.slice A1 s.q c1) s.q s.Q by subst hW8; exact ((PQ.out.next hb5).setB r8 (T := 0) (rv := .nilIface) (.inl rfl)).setB (r8.set_ 0 _) (.inr rfl))
      have PR8 := Lib.hid (show PolV B W8 (.slice A2 s.r c2) s.r s.R by subst hW8; exact ((PR.out.next hb5).setB r8 (T := 0) (rv := .nilIface) (.inl rfl)).setB (r8.set_ 0 _) (.inr rfl))
      have B8 := Lib.hid (show Below (w.heap.size + 1 + 1) W W8 by subst hW8; exact ((BK.out.trans (hb5.mono (by omega))).setCell (by show w.heap.size + 1 + 1 ≤ gt; omega) _).setCell (by show w.heap.size + 1 + 1 ≤ gt; omega) _)
      have S8 : wr.heap.size ≤ W8.heap.size := by subst hW8; simpa using hb5.size
      rw [hW8]
      clear hW8 z0 z1 g0 g1 r8 hpt hb5
      have BW8 := Lib.hid (B0.out.trans (B8.out.mono (by omega)))
      have R8 := Lib.hid (HRw.out.next BW8.out)
      have y0 := U8.out.cell 0
      have y1 := U8.out.cell 1
      have z0 := T8.out.cell 0
      have z1 := T8.out.cell 1
      simp at y0 y1 z0 z1
      go_upto_region 7 with (go_at_call 57; (with_reducible refine (plus_any s.Q (monF k t) A1 At s.q (monL k t) c1 ct 25 (.agg #[.int .i64 m, .int .i64 e, .slice (some ⟨b1, o1, none⟩) la ca, .slice (some ⟨b2, o2, none⟩) lb cb]) m e b1 o1 la ca b2 o2 lb cb S P _ R8.out PQ8.out.ints PT8.out.ints (by omega) (by omega) HQB.out HMB.out).mono ?_); rintro e6 w6 ⟨v6, rfl, hp6, hb6⟩; rw [HQ1.out, HQ2.out] at hp6; obtain ⟨A6, c6, rfl⟩ := hp6.shape; have P6 := Lib.hid hp6; have U6 := Lib.hid (U8.out.next hb6); have B6 := Lib.hid hb6; have y0 := U6.out.cell 0; have y1 := U6.out.cell 1; have g0 := U6.out.frozen 0; have g1 := U6.out.frozen 1; simp at y0 y1; clear hp6 hb6)
      obtain ⟨W9, hW9⟩ : ∃ W9, (w6.setCell ⟨w.heap.size + 1 + 1, 0, none⟩ (.iface 25 (.agg #[.int .i64 m, .int .i64 e, .slice (some ⟨b1, o1, none⟩) la ca, .slice (some ⟨b2, o2, none⟩) lb cb]))).setCell ⟨w.heap.size + 1 + 1, 1, none⟩ (.slice A6 q1 c6) = W9 := ⟨_, rfl⟩
      have n4' : w.heap.size + 1 + 1 + 1 ≠ w.heap.size + 1 + 1 := by omega
      have U9 := Lib.hid (show Blk W9 (w.heap.size + 1 + 1) 61 #[.iface 25 (.agg #[.int .i64 m, .int .i64 e, .slice (some ⟨b1, o1, none⟩) la ca, .slice (some ⟨b2, o2, none⟩) lb cb]), .slice A6 q1 c6] by subst hW9; exact (U6.out.set_ 0 _).set_ 1 _)
      have T9 := Lib.hid (show Blk W9 gt 61 #[.iface 25 (.agg #[.int .i64 m, .int .i64 e, .slice (some ⟨b1, o1, none⟩) la ca, .slice (some ⟨b2, o2, none⟩) lb cb]), .slice At (monL k t) ct] by subst hW9; exact ((T8.out.next B6.out).far (p := ⟨w.heap.size + 1 + 1, 0, none⟩) n2'.symm _).far (p := ⟨w.heap.size + 1 + 1, 1, none⟩) n2'.symm _)
      have X9 := Lib.hid (show Blk W9 (w.heap.size + 1 + 1 + 1) 61 #[.iface 25 (.agg #[.int .i64 m, .int .i64 e, .slice (some ⟨b1, o1, none⟩) la ca, .slice (some ⟨b2, o2, none⟩) lb cb]), .slice A2 s.r c2] by subst hW9; exact ((X8.out.next B6.out).far (p := ⟨w.heap.size + 1 + 1, 0, none⟩) n4' _).far (p := ⟨w.heap.size + 1 + 1, 1, none⟩) n4' _)
      have P9 := Lib.hid (show PolV W8.heap.size W9 (.slice A6 q1 c6) q1 Q1 by subst hW9; exact (P6.out.setB U6.out (.inr rfl)).setB (U6.out.set_ 0 _) (.inr rfl))
      have PT9 := Lib.hid (show PolV wr.heap.size W9 (.slice At (monL k t) ct) (monL k t) (monF k t) by subst hW9; exact ((PT8.out.next B6.out).setB U6.out (.inr rfl)).setB (U6.out.set_ 0 _) (.inr rfl))
      have PR9 := Lib.hid (show PolV B W9 (.slice A2 s.r c2) s.r s.R by subst hW9; exact ((PR8.out.next B6.out).setB U6.out (.inr rfl)).setB (U6.out.set_ 0 _) (.inr rfl))
      have B9 := Lib.hid (show Below (w.heap.size + 1 + 1) W W9 by subst hW9; exact ((B8.out.trans (B6.out.mono (by omega))).setCell (Nat.le_refl _) _).setCell (Nat.le_refl _) _)
      have S9 : W8.heap.size ≤ W9.heap.size := by subst hW9; simpa using B6.out.size
      rw [hW9]
      clear hW9 y0 y1 z0 z1 g0 g1
      have BW9 := Lib.hid (B0.out.trans (B9.out.mono (by omega)))
      have N1 := Lib.hid (K1.out.below B9.out (by omega))
      refine wp_region_makersE 5 miMk (MiPhi W9.heap.size n9 r9 M9 R9 25 (.agg #[.int .i64 m, .int .i64 e, .slice (some ⟨b1, o1, none⟩) la ca, .slice (some ⟨b2, o2, none⟩) lb cb])) (MiSh n9 r9 25 (.agg #[.int .i64 m, .int .i64 e, .slice (some ⟨b1, o1, none⟩) la ca, .slice (some ⟨b2, o2, none⟩) lb cb])) (mi0 n9 r9 25 (.agg #[.int .i64 m, .int .i64 e, .slice (some ⟨b1, o1, none⟩) la ca, .slice (some ⟨b2, o2, none⟩) lb cb])) probe (by kernel_rfl) (by kernel_rfl) MiPhi_stable (fun i v x _ => MiSh_of i v x) (fun i _ => MiSh_zero i) ?_
      intro V2 hV2 vs2 hvs2
      obtain ⟨A3, q3, e3⟩ := (hvs2 3 rfl).p3 rfl
      obtain ⟨A4, q4', e4⟩ := (hvs2 4 rfl).p4 rfl
      have cW2 : ∃ x, extC V2 x := ⟨V2, extC_of (Below.refl _ _)⟩
      have KX2 := Lib.hid (show ∀ x, extC V2 x → Below W9.heap.size W9 x from fun x ⟨u, hu⟩ => by rw [hu]; exact below_step hV2 (ext_below V2 u))
      have GQ5 := (X9.out.next hV2).inCP
      have GQ8 := (T9.out.next hV2).inCP
      have GQ3 := (N1.out.next hV2).inCP
      clear hV2
      simp only [List.take_succ_cons, List.take_zero, List.drop_succ_cons, List.drop_zero]
      refine wpV_quietE cW2 3 0 _ _ (by decide) (by decide) ?_
      simp only [List.take_succ_cons, List.take_zero, List.drop_succ_cons, List.drop_zero]
      repeat (first
        | (refine wpQuiet_load_rowP rfl 61 (.tmp 5) rfl (w.heap.size + 1 + 1 + 1) rfl _ #[.iface 25 (.agg #[.int .i64 m, .int .i64 e, .slice (some ⟨b1, o1, none⟩) la ca, .slice (some ⟨b2, o2, none⟩) lb cb]), .slice A2 s.r c2] _ GQ5 Try.underlying61 rfl (by kernel_rfl) ?_; go_simp)
        | (refine wpQuiet_load_rowP rfl 61 (.tmp 8) rfl gt rfl _ #[.iface 25 (.agg #[.int .i64 m, .int .i64 e, .slice (some ⟨b1, o1, none⟩) la ca, .slice (some ⟨b2, o2, none⟩) lb cb]), .slice At (monL k t) ct] _ GQ8 Try.underlying61 rfl (by kernel_rfl) ?_; go_simp)
        | (refine wpQuiet_load_rowP rfl 61 (.tmp 3) rfl (w.heap.size + 1) rfl _ #[.iface T2 rv2, .slice K (lg + 1) cg] _ GQ3 Try.underlying61 rfl (by kernel_rfl) ?_; go_simp)
        | (go_big_quiet_step (fail)))
      refine wpQuiet_nil ?_
      refine wpV_make_E rfl rfl (fun x' hx' _ => ?_) ?_
      · have bx := KX2.out x' hx'
        have bw := BW9.out.trans (bx.mono BW9.out.size)
        unfold makesAtE
        go_simp
        refine ⟨rfl, (times_poly (monF k t) G At K (monL k t) (lg + 1) ct cg T2 rv2 m e b1 o1 la ca b2 o2 lb cb S P x' (HRw.out.next bw) ((PT9.out.next bx).ints) (HGw.out.next bw) (by omega) (by omega) HMB.out HG'.out).mono ?_⟩
        rintro _ x'' ⟨v, rfl, ho, hb⟩
        have ho2 : PolV x'.heap.size x'' v n9 M9 := by rw [← HN9.out, ← HM9.out]; exact ho
        exact ⟨_, rfl, hb, ⟨fun _ => ⟨_, rfl, ho2.down bx.size⟩, fun e => absurd e (by decide)⟩, fun b hbb => by cases hbb⟩
      rw [e3]
      go_simp
      refine wpV_make_E rfl rfl (fun x' hx' hd => ?_) ?_
      · have h3 := (hd { on := 3, ground := .data } (by simp) rfl rfl).p3 rfl
        rw [e3] at h3
        obtain ⟨u, hu, hp⟩ := h3
        simp at hu
        subst hu
        have bx := KX2.out x' hx'
        have bw := BW9.out.trans (bx.mono BW9.out.size)
        unfold makesAtE
        go_simp
        refine ⟨rfl, (minus_any s.R M9 A2 A3 s.r n9 c2 q3 25 (.agg #[.int .i64 m, .int .i64 e, .slice (some ⟨b1, o1, none⟩) la ca, .slice (some ⟨b2, o2, none⟩) lb cb]) m e b1 o1 la ca b2 o2 lb cb S P x' (HRw.out.next bw) HRT.out ((PR9.out.next bx).ints) hp.ints (by omega) (by omega) HRB.out HM9B.out).mono ?_⟩
        rintro _ x'' ⟨v, rfl, ho, hb⟩
        rw [HN2.out, HR9.out, HR2.out] at ho
        exact ⟨_, rfl, hb, ⟨fun e => absurd e (by decide), fun _ => ⟨_, rfl, ho.down bx.size⟩⟩, fun b hbb => by cases hbb⟩
      rw [e4]
      go_simp
      refine wpV_nilE ?_
      intro w7 hb7 hf2 _
      have h5 := (hf2 4 (by decide) rfl).p4 rfl
      rw [e4] at h5
      obtain ⟨u, hu, hp⟩ := h5
      simp at hu
      subst hu
      have P7' := Lib.hid hp
      have B7' := Lib.hid hb7
      have X7 := Lib.hid (X9.out.next hb7)
      have z0 := X7.out.cell 0
      have z1 := X7.out.cell 1
      have g0 := X7.out.frozen 0
      have g1 := X7.out.frozen 1
      simp at z0 z1
      clear hp hb7 hf2 hvs2 e3 e4 GQ5 GQ8 GQ3
      go_wp2_with (fail)
      go_roundg g'
      case measure => omega
      case rel =>
        refine ⟨⟨Q1, q1, R9, r9⟩, d + (lf - s.r - d) + 1, A6, A4, c6, q4', ?_, ?_, ?_, ?_, ?_, ?_, ?_, ?_, ?_⟩
        · exact ((U9.out.next B7'.out).far (p := ⟨w.heap.size + 1 + 1 + 1, 0, none⟩) n4'.symm _).far (p := ⟨w.heap.size + 1 + 1 + 1, 1, none⟩) n4'.symm _
        · exact (X7.out.set_ 0 _).set_ 1 _
        · exact (((P9.out.next B7'.out).setB X7.out (.inr rfl)).setB (X7.out.set_ 0 _) (.inr rfl)).down (by omega)
        · exact ((P7'.out.setB X7.out (.inr rfl)).setB (X7.out.set_ 0 _) (.inr rfl)).down (by omega)
        · intro h1 h2 b off b' off' e1 e2
          subst e1 e2
          have h3 := (P9.out.cellP (i := 0) (by have : q1 ≠ 0 := h1; omega)).2.2
          have h4 := (P7'.out.cellP (i := 0) (by have : r9 ≠ 0 := h2; omega)).2.1
          omega
        · exact ((B9.out.trans (B7'.out.mono (by omega))).setCell (by show w.heap.size + 1 + 1 ≤ w.heap.size + 1 + 1 + 1; omega) _).setCell (by show w.heap.size + 1 + 1 ≤ w.heap.size + 1 + 1 + 1; omega) _
        · have h1 := HN1.out.rl
          rw [HST.out] at h1
          exact (by
            have h2 : r9 + (d + (lf - s.r - d) + 1) ≤ lf := h1
            show r9 ≤ g'
            omega)
        · rw [← HST.out]; exact HN1.out
        · rw [← HST.out]; exact HGO2.out
    · have hki : ¬ ((lg + 1 : Nat) : Int) ≤ ((s.r : Nat) : Int) := by omega
      go_wp2_with (fail)
      refine wp_region_held_drew (S := fun w' => Blk w' (w.heap.size + 1 + 1) 61 #[.iface 25 (.agg #[.int .i64 m, .int .i64 e, .slice (some ⟨b1, o1, none⟩) la ca, .slice (some ⟨b2, o2, none⟩) lb cb]), .slice A1 s.q c1] ∧ Blk w' (w.heap.size + 1 + 1 + 1) 61 #[.iface 25 (.agg #[.int .i64 m, .int .i64 e, .slice (some ⟨b1, o1, none⟩) la ca, .slice (some ⟨b2, o2, none⟩) lb cb]), .slice A2 s.r c2]) (by kernel_rfl) ⟨M2.out.drewN 1, M3.out.drewN 1⟩ (fun hHeld => ?_)
      refine wpAnyH_take (i := 0) (v := .agg #[.iface 25 (.agg #[.int .i64 m, .int .i64 e, .slice (some ⟨b1, o1, none⟩) la ca, .slice (some ⟨b2, o2, none⟩) lb cb]), .slice A1 s.q c1]) rfl (by kernel_rfl) (by kernel_rfl) (by kernel_rfl) (fun _ _ _ h => h) (Or.inl ⟨by rfl, fun _ hSw => run_load_pol rfl rfl hSw.1⟩) (by assumption) ?_
      (try simp only [List.getElem_toArray, List.getElem_cons_zero, Act.put, List.setIfInBounds_toArray, List.set_cons_zero, List.set_cons_succ])
      refine wpAnyH_take (i := 1) (v := .agg #[.iface 25 (.agg #[.int .i64 m, .int .i64 e, .slice (some ⟨b1, o1, none⟩) la ca, .slice (some ⟨b2, o2, none⟩) lb cb]), .slice A2 s.r c2]) rfl (by kernel_rfl) (by kernel_rfl) (by kernel_rfl) (fun _ _ _ h => h) (Or.inl ⟨by rfl, fun _ hSw => run_load_pol rfl rfl hSw.2⟩) (by assumption) ?_
      (try simp only [List.getElem_toArray, List.getElem_cons_zero, List.getElem_cons_succ, Act.put, List.setIfInBounds_toArray, List.set_cons_zero, List.set_cons_succ])
      obtain ⟨Y, hY⟩ : ∃ Y, wr.drew = Y := ⟨_, rfl⟩
      have m2 : Blk Y (w.heap.size + 1 + 1) 61 #[.iface 25 (.agg #[.int .i64 m, .int .i64 e, .slice (some ⟨b1, o1, none⟩) la ca, .slice (some ⟨b2, o2, none⟩) lb cb]), .slice A1 s.q c1] := by rw [← hY]; exact M2.out.drewN 1
      have m3 : Blk Y (w.heap.size + 1 + 1 + 1) 61 #[.iface 25 (.agg #[.int .i64 m, .int .i64 e, .slice (some ⟨b1, o1, none⟩) la ca, .slice (some ⟨b2, o2, none⟩) lb cb]), .slice A2 s.r c2] := by rw [← hY]; exact M3.out.drewN 1
      have bY : Below wr.heap.size wr Y := by rw [← hY]; exact (Below.refl _ _).drew
      rw [hY]
      have q1 := PQ.out.next bY
      have r1 := PR.out.next bY
      have y0 := m2.cell 0
      have y1 := m2.cell 1
      have g0 := m2.frozen 0
      have g1 := m2.frozen 1
      simp at y0 y1
      clear hHeld x0 x1 z0 z1
      refine wpAnyH_ready (rs := [2]) (by kernel_rfl) (by simp) ?_
      refine AllReadyH.cons (o := _) rfl (fun KK hK => ?_) AllReadyH.nil
      (try simp only [List.getElem_toArray, List.getElem_cons_zero, List.getElem_cons_succ, Act.put])
      go_simp
      have ne2 : w.heap.size + 1 + 1 + 1 ≠ w.heap.size + 1 + 1 := by omega
      refine hK.out _ _ ⟨(m2.set_ 0 _).set_ 1 _, (m3.far (p := ⟨w.heap.size + 1 + 1, 0, none⟩) ne2 _).far (p := ⟨w.heap.size + 1 + 1, 1, none⟩) ne2 _⟩ (fun hHeld => ?_)
      clear hK KK g0 g1
      obtain ⟨Y2, hY2⟩ : ∃ Y2, (Y.setCell ⟨w.heap.size + 1 + 1, 0, none⟩ (.iface 25 (.agg #[.int .i64 m, .int .i64 e, .slice (some ⟨b1, o1, none⟩) la ca, .slice (some ⟨b2, o2, none⟩) lb cb]))).setCell ⟨w.heap.size + 1 + 1, 1, none⟩ (.slice A1 s.q c1) = Y2 := ⟨_, rfl⟩
      have u2 : Blk Y2 (w.heap.size + 1 + 1) 61 #[.iface 25 (.agg #[.int .i64 m, .int .i64 e, .slice (some ⟨b1, o1, none⟩) la ca, .slice (some ⟨b2, o2, none⟩) lb cb]), .slice A1 s.q c1] := by rw [← hY2]; exact (m2.set_ 0 _).set_ 1 _
      have u3 : Blk Y2 (w.heap.size + 1 + 1 + 1) 61 #[.iface 25 (.agg #[.int .i64 m, .int .i64 e, .slice (some ⟨b1, o1, none⟩) la ca, .slice (some ⟨b2, o2, none⟩) lb cb]), .slice A2 s.r c2] := by rw [← hY2]; exact (m3.far (p := ⟨w.heap.size + 1 + 1, 0, none⟩) ne2 _).far (p := ⟨w.heap.size + 1 + 1, 1, none⟩) ne2 _
      have q2' : PolV B Y2 (.slice A1 s.q c1) s.q s.Q := by rw [← hY2]; exact (q1.setB m2 (.inr rfl)).setB (m2.set_ 0 _) (.inr rfl)
      have r2' : PolV B Y2 (.slice A2 s.r c2) s.r s.R := by rw [← hY2]; exact (r1.setB m2 (.inr rfl)).setB (m2.set_ 0 _) (.inr rfl)
      have by2 : Below (w.heap.size + 1 + 1) W Y2 := by
        rw [← hY2]
        exact ((BK.out.trans (bY.mono (by have := BK.out.size; have := HSW.out; omega))).setCell (by simp) _).setCell (by simp) _
      rw [hY2]
      have y0 := u3.cell 0
      have y1 := u3.cell 1
      have g0 := u3.frozen 0
      have g1 := u3.frozen 1
      simp at y0 y1
      clear hHeld
      (try simp only [List.getElem_toArray, List.getElem_cons_zero, List.getElem_cons_succ, Act.put, List.setIfInBounds_toArray, List.set_cons_zero, List.set_cons_succ])
      refine wpAnyH_ready (rs := [3]) (by kernel_rfl) (by simp) ?_
      refine AllReadyH.cons (o := _) rfl (fun KK hK => ?_) AllReadyH.nil
      (try simp only [List.getElem_toArray, List.getElem_cons_zero, List.getElem_cons_succ, Act.put])
      go_simp
      refine hK.out _ _ ⟨(u2.far (p := ⟨w.heap.size + 1 + 1 + 1, 0, none⟩) ne2.symm _).far (p := ⟨w.heap.size + 1 + 1 + 1, 1, none⟩) ne2.symm _, (u3.set_ 0 _).set_ 1 _⟩ (fun hHeld => ?_)
      clear hK KK g0 g1
      obtain ⟨Y3, hY3⟩ : ∃ Y3, (Y2.setCell ⟨w.heap.size + 1 + 1 + 1, 0, none⟩ (.iface 25 (.agg #[.int .i64 m, .int .i64 e, .slice (some ⟨b1, o1, none⟩) la ca, .slice (some ⟨b2, o2, none⟩) lb cb]))).setCell ⟨w.heap.size + 1 + 1 + 1, 1, none⟩ (.slice A2 s.r c2) = Y3 := ⟨_, rfl⟩
      have v2 : Blk Y3 (w.heap.size + 1 + 1) 61 #[.iface 25 (.agg #[.int .i64 m, .int .i64 e, .slice (some ⟨b1, o1, none⟩) la ca, .slice (some ⟨b2, o2, none⟩) lb cb]), .slice A1 s.q c1] := by rw [← hY3]; exact (u2.far (p := ⟨w.heap.size + 1 + 1 + 1, 0, none⟩) ne2.symm _).far (p := ⟨w.heap.size + 1 + 1 + 1, 1, none⟩) ne2.symm _
      have v3 : Blk Y3 (w.heap.size + 1 + 1 + 1) 61 #[.iface 25 (.agg #[.int .i64 m, .int .i64 e, .slice (some ⟨b1, o1, none⟩) la ca, .slice (some ⟨b2, o2, none⟩) lb cb]), .slice A2 s.r c2] := by rw [← hY3]; exact (u3.set_ 0 _).set_ 1 _
      have q3 : PolV B Y3 (.slice A1 s.q c1) s.q s.Q := by rw [← hY3]; exact (q2'.setB u3 (.inr rfl)).setB (u3.set_ 0 _) (.inr rfl)
      have r3 : PolV B Y3 (.slice A2 s.r c2) s.r s.R := by rw [← hY3]; exact (r2'.setB u3 (.inr rfl)).setB (u3.set_ 0 _) (.inr rfl)
      have by3 : Below (w.heap.size + 1 + 1) W Y3 := by
        rw [← hY3]
        exact (by2.setCell (by simp) _).setCell (by simp) _
      rw [hY3]
      (try simp only [List.getElem_toArray, List.getElem_cons_zero, List.getElem_cons_succ, Act.put, List.setIfInBounds_toArray, List.set_cons_zero, List.set_cons_succ])
      refine wpAnyH_done (by kernel_rfl) ?_ _
      clear hHeld
      go_wp2_with (fail)
      have hs : dgo m S P G (lg + 1) iv lf ⟨fun _ => 0, 0, F, lf⟩ = s := HZ.out.trans (HGO.out.symm.trans (dgo_stop hlr _))
      refine bodyPost_ret (v := .tuple #[.agg #[.iface 25 (.agg #[.int .i64 m, .int .i64 e, .slice (some ⟨b1, o1, none⟩) la ca, .slice (some ⟨b2, o2, none⟩) lb cb]), .slice A1 s.q c1], .agg #[.iface 25 (.agg #[.int .i64 m, .int .i64 e, .slice (some ⟨b1, o1, none⟩) la ca, .slice (some ⟨b2, o2, none⟩) lb cb]), .slice A2 s.r c2]]) ?_ rfl ⟨_, _, rfl, by rw [hs]; exact q3, by rw [hs]; exact r3, by rw [hs]; exact fun h1 h2 b off c b' off' c' e1 e2 => (by
        simp only [Value.slice.injEq, true_and] at e1 e2
        exact HAP.out h1 h2 b off b' off' e1.1 e2.1), B0.out.trans (by3.mono (by omega))⟩
      exact results_cc rfl _ _ (w.heap.size + 1 + 1) (w.heap.size + 1 + 1 + 1) 61 _ _ _ rfl rfl v2 v3 Try.underlying61 rfl (by kernel_rfl) (by kernel_rfl)

end Go.Proofs.Ytlcpbdbdiahmjaa



/- DividePoly of the program: a panic within is recovered. -/
namespace Go.Proofs.Ytlcpbdbdiahmjaa
open Go.RowKit Go.Shelf
set_option maxRecDepth 100000

set_option maxHeartbeats 2000000 in
theorem dcatch_panicking (g6 g7 g8 : Nat) (x y z : Value) (T : TypeId) (pv : Value) (older : List PanicEntry) (w : World) (h6 : Blk w g6 23 #[x]) (h7 : Blk w g7 23 #[y]) (h8 : Blk w g8 4 #[z]) (n67 : g6 ≠ g7) (n68 : g6 ≠ g8) (n78 : g7 ≠ g8) :
    CallsD Try.prog 46 #[.pointer (some ⟨g6, 0, none⟩), .pointer (some ⟨g7, 0, none⟩), .pointer (some ⟨g8, 0, none⟩)] (.panicking ({ v := .iface T pv, recovered := false } :: older)) w fun e u' w' =>
      e = .returned (.tuple #[]) ∧ u' = .panicking ({ v := .iface T pv, recovered := true } :: older) ∧ w' = ((w.setCell ⟨g6, 0, none⟩ (.slice none 0 0)).setCell ⟨g7, 0, none⟩ (.slice none 0 0)).setCell ⟨g8, 0, none⟩ (.bool false) := by
  have c6 := h6.cell 0
  have z6 := h6.frozen 0
  have c7 := (h7.far (p := ⟨g6, 0, none⟩) n67.symm (.slice none 0 0)).cell 0
  have z7 := (h7.far (p := ⟨g6, 0, none⟩) n67.symm (.slice none 0 0)).frozen 0
  have c8 := ((h8.far (p := ⟨g6, 0, none⟩) n68.symm (.slice none 0 0)).far (p := ⟨g7, 0, none⟩) n78.symm (.slice none 0 0)).cell 0
  have z8 := ((h8.far (p := ⟨g6, 0, none⟩) n68.symm (.slice none 0 0)).far (p := ⟨g7, 0, none⟩) n78.symm (.slice none 0 0)).frozen 0
  simp at c6 c7 c8
  refine callsD_of_wpS Try.func46 rfl fun c₀ cs hu => ?_
  apply wpS_seq
  apply wpS_region
  simp [wpOpsS, go_sem, recoverD, hu, Try.ntmps46, Exit.thenS]
  refine wpS_cond (t := true) (by simp [Act.eval, Array.replicate]) ?_
  simp only [if_true]
  apply wpS_region
  simp [wpOpsS, go_sem, c6, z6, c7, z7, c8, z8, bodyPostS, results, Try.results46]

theorem dcatch_idle (p q r : Value) (w : World) :
    CallsD Try.prog 46 #[p, q, r] .returning w fun e u' w' => e = .returned (.tuple #[]) ∧ u' = .returning ∧ w' = w := by
  refine callsD_of_wpS Try.func46 rfl fun c₀ cs hu => ?_
  apply wpS_seq
  apply wpS_region
  simp [wpOpsS, go_sem, recoverD, hu, Try.ntmps46, Exit.thenS]
  refine wpS_cond (t := false) (by simp [Act.eval, Array.replicate]) ?_
  simp only [Bool.false_eq_true, if_false]
  refine wpS_of_wp (wp_skip ?_)
  cases c₀
  simp_all [bodyPostS, results, Try.results46]

section
variable (R0 : Array Value) (w : World)
theorem pdv_boxes : ∃ W, (((w.alloc (.cells R0 25)).alloc (.cells #[.slice none 0 0] 23)).alloc (.cells #[.slice none 0 0] 23)).alloc (.cells #[.bool false] 4) = W ∧
    Blk W w.heap.size 25 R0 ∧ Blk W (w.heap.size + 1) 23 #[.slice none 0 0] ∧ Blk W (w.heap.size + 1 + 1) 23 #[.slice none 0 0] ∧ Blk W (w.heap.size + 1 + 1 + 1) 4 #[.bool false] ∧ Below w.heap.size w W ∧ W.heap.size = w.heap.size + 1 + 1 + 1 + 1 := by
  obtain ⟨W1, hW1⟩ : ∃ W1, w.alloc (.cells R0 25) = W1 := ⟨_, rfl⟩
  have s1 : W1.heap.size = w.heap.size + 1 := by rw [← hW1]; simp
  have k1 : Blk W1 w.heap.size 25 R0 := by rw [← hW1]; exact Blk.new w _ _
  have b1 : Below w.heap.size w W1 := by rw [← hW1]; exact (Below.refl _ _).alloc (Nat.le_refl _) _
  obtain ⟨W2, hW2⟩ : ∃ W2, W1.alloc (.cells #[.slice none 0 0] 23) = W2 := ⟨_, rfl⟩
  have s2 : W2.heap.size = w.heap.size + 1 + 1 := by rw [← hW2]; simp [s1]
  have k2 : Blk W2 (w.heap.size + 1) 23 #[.slice none 0 0] := by rw [← hW2, ← s1]; exact Blk.new W1 _ _
  obtain ⟨W3, hW3⟩ : ∃ W3, W2.alloc (.cells #[.slice none 0 0] 23) = W3 := ⟨_, rfl⟩
  have s3 : W3.heap.size = w.heap.size + 1 + 1 + 1 := by rw [← hW3]; simp [s2]
  have k3 : Blk W3 (w.heap.size + 1 + 1) 23 #[.slice none 0 0] := by rw [← hW3, ← s2]; exact Blk.new W2 _ _
  refine ⟨_, rfl, ?_⟩
  rw [hW1, hW2, hW3]
  refine ⟨?_, ?_, k3.alloc _, ?_, ?_, by simp [s3]⟩
  · have k1' : Blk W2 w.heap.size 25 R0 := by rw [← hW2]; exact k1.alloc _
    have k1'' : Blk W3 w.heap.size 25 R0 := by rw [← hW3]; exact k1'.alloc _
    exact k1''.alloc _
  · have k2' : Blk W3 (w.heap.size + 1) 23 #[.slice none 0 0] := by rw [← hW3]; exact k2.alloc _
    exact k2'.alloc _
  · have := Blk.new W3 4 #[.bool false]
    rw [s3] at this
    exact this
  · have b2 : Below w.heap.size w W2 := by rw [← hW2]; exact b1.alloc (by omega) _
    have b3 : Below w.heap.size w W3 := by rw [← hW3]; exact b2.alloc (by omega) _
    exact b3.alloc (by omega) _
end

theorem results_ccc {fn : Func} {p q r : Tmp} (h : fn.results = #[.cell p 23, .cell q 23, .cell r 4]) (tmps : Array Value) (w : World) (g6 g7 g8 : Nat) (x y z : Value)
    (hp : tmps.getD p undef = .pointer (some ⟨g6, 0, none⟩)) (hq : tmps.getD q undef = .pointer (some ⟨g7, 0, none⟩)) (hr : tmps.getD r undef = .pointer (some ⟨g8, 0, none⟩))
    (h6 : Blk w g6 23 #[x]) (h7 : Blk w g7 23 #[y]) (h8 : Blk w g8 4 #[z]) : (results fn tmps).run Try.prog w = .ok (.tuple #[x, y, z]) w := by
  have c6 : w.cell? ⟨g6, 0, none⟩ = some x := h6.cell 0
  have c7 : w.cell? ⟨g7, 0, none⟩ = some y := h7.cell 0
  have c8 : w.cell? ⟨g8, 0, none⟩ = some z := h8.cell 0
  have e6 : (loadVar 23 ⟨g6, 0, none⟩).run Try.prog w = .ok x w := by simp [loadVar, Sem.run_bind, go_sem, c6]
  have e7 : (loadVar 23 ⟨g7, 0, none⟩).run Try.prog w = .ok y w := by simp [loadVar, Sem.run_bind, go_sem, c7]
  have e8 : (loadVar 4 ⟨g8, 0, none⟩).run Try.prog w = .ok z w := by simp [loadVar, Sem.run_bind, go_sem, c8]
  have e : (results fn tmps).run Try.prog w = ((asAddr (tmps.getD p undef)).run Try.prog w).andThen fun a w₁ => ((loadVar 23 a).run Try.prog w₁).andThen fun v w₂ => ((asAddr (tmps.getD q undef)).run Try.prog w₂).andThen fun a' w₃ => ((loadVar 23 a').run Try.prog w₃).andThen fun v' w₄ => ((asAddr (tmps.getD r undef)).run Try.prog w₄).andThen fun a'' w₅ => ((loadVar 4 a'').run Try.prog w₅).andThen fun v'' w₆ => .ok (.tuple #[v, v', v'']) w₆ := by
    simp only [results, h]
    simp [Sem.run_bind, Result.andThen]
  rw [e, hp, hq, hr]
  simp [asAddr, e6, e7, e8]
/-- What the three results' cells are behind three stores. -/
theorem set3 {w : World} {g6 g7 g8 : Nat} {x y z : Value} (h6 : Blk w g6 23 #[x]) (h7 : Blk w g7 23 #[y]) (h8 : Blk w g8 4 #[z]) (n67 : g6 ≠ g7) (n68 : g6 ≠ g8) (n78 : g7 ≠ g8) (x' y' z' : Value) :
    Blk (((w.setCell ⟨g6, 0, none⟩ x').setCell ⟨g7, 0, none⟩ y').setCell ⟨g8, 0, none⟩ z') g6 23 #[x'] ∧ Blk (((w.setCell ⟨g6, 0, none⟩ x').setCell ⟨g7, 0, none⟩ y').setCell ⟨g8, 0, none⟩ z') g7 23 #[y'] ∧ Blk (((w.setCell ⟨g6, 0, none⟩ x').setCell ⟨g7, 0, none⟩ y').setCell ⟨g8, 0, none⟩ z') g8 4 #[z'] :=
  ⟨((h6.set_ 0 x').far (p := ⟨g7, 0, none⟩) n67 _).far (p := ⟨g8, 0, none⟩) n68 _, ((h7.far (p := ⟨g6, 0, none⟩) n67.symm _).set_ 0 y').far (p := ⟨g8, 0, none⟩) n78 _, ((h8.far (p := ⟨g6, 0, none⟩) n68.symm _).far (p := ⟨g7, 0, none⟩) n78.symm _).set_ 0 z'⟩
theorem one_not {v : Value} (h : ∀ i, v ≠ .int .i64 i) (k : Nat) (x : Int) : (#[v] : Array Value)[k]? ≠ some (.int .i64 x) := fun e => by
  match k, e with
  | 0, e => simp at e; exact h x e
  | k + 1, e => simp at e
theorem PolV.set3 {w : World} {D l g6 g7 g8 : Nat} {u x y z : Value} {F : Nat → Nat} (h : PolV D w u l F) (h6 : Blk w g6 23 #[x]) (h7 : Blk w g7 23 #[y]) (h8 : Blk w g8 4 #[z]) (n67 : g6 ≠ g7) (n68 : g6 ≠ g8) (n78 : g7 ≠ g8) (hx : ∀ i, x ≠ .int .i64 i) (hy : ∀ i, y ≠ .int .i64 i) (hz : ∀ i, z ≠ .int .i64 i) (x' y' z' : Value) :
    PolV D (((w.setCell ⟨g6, 0, none⟩ x').setCell ⟨g7, 0, none⟩ y').setCell ⟨g8, 0, none⟩ z') u l F := by
  obtain ⟨A, c, e, h1, h2⟩ := h
  exact ⟨A, c, e, ((h1.setcD h6 (one_not hx)).setcD (h7.far (p := ⟨g6, 0, none⟩) n67.symm _) (one_not hy)).setcD ((h8.far (p := ⟨g6, 0, none⟩) n68.symm _).far (p := ⟨g7, 0, none⟩) n78.symm _) (one_not hz), h2⟩
theorem below3 {w W : World} {g6 g7 g8 : Nat} {x y z : Value} (h : Below w.heap.size w W) (h6 : w.heap.size ≤ g6) (h7 : w.heap.size ≤ g7) (h8 : w.heap.size ≤ g8) : Below w.heap.size w (((W.setCell ⟨g6, 0, none⟩ x).setCell ⟨g7, 0, none⟩ y).setCell ⟨g8, 0, none⟩ z) :=
  ((h.setCell (p := ⟨g6, 0, none⟩) h6 _).setCell (p := ⟨g7, 0, none⟩) h7 _).setCell (p := ⟨g8, 0, none⟩) h8 _
theorem div_no {n o : Int} {X Y Z V : List Int} {w W : World} (h : pdvB n o X Y Z V = false) (hb : Below w.heap.size w W) :
    ∃ u v, Ending.returned (.tuple #[.slice none 0 0, .slice none 0 0, .bool false]) = .returned (.tuple #[u, v, .bool (pdvB n o X Y Z V)]) ∧ SliceOut w.heap.size W u (pdvQ n o X Y Z V) ∧ SliceOut w.heap.size W v (pdvR n o X Y Z V) ∧ Dsj (pdvQ n o X Y Z V).length (pdvR n o X Y Z V).length u v ∧ Below w.heap.size w W := by
  have hq : pdvQ n o X Y Z V = [] := if_neg (by rw [h]; simp)
  have hr : pdvR n o X Y Z V = [] := if_neg (by rw [h]; simp)
  rw [h, hq, hr]
  exact ⟨_, _, rfl, SliceOut.nil, SliceOut.nil, fun h => absurd rfl h, hb⟩
theorem inv_neg {m e a : Nat} {P : Nat → Nat} (h : ¬ 0 ≤ invN m P e a) : invN m P e a = -1 := by
  have := (idx_bounds (rowL m P a) e).1
  have h2 : invN m P e a = idx (rowL m P a) e := rfl
  omega
theorem pdv_ok {m e lf lg iv : Nat} {X Y Z V : List Int} (h2 : twoB (m : Int) (e : Int) X Y Z V = true) (hZ : Z.length = lf) (hV : V.length = lg + 1) (hi : invN m (tabOf Y) e (tabOf V lg) = (iv : Int)) :
    iv < m ∧ tabOf Y (tabOf V lg * m + iv) = e ∧ pdvB m e X Y Z V = true ∧ pdvQ m e X Y Z V = lstF (dgo m (tabOf X) (tabOf Y) (tabOf V) (lg + 1) iv lf ⟨fun _ => 0, 0, tabOf Z, lf⟩).Q (dgo m (tabOf X) (tabOf Y) (tabOf V) (lg + 1) iv lf ⟨fun _ => 0, 0, tabOf Z, lf⟩).q ∧
      pdvR m e X Y Z V = lstF (dgo m (tabOf X) (tabOf Y) (tabOf V) (lg + 1) iv lf ⟨fun _ => 0, 0, tabOf Z, lf⟩).R (dgo m (tabOf X) (tabOf Y) (tabOf V) (lg + 1) iv lf ⟨fun _ => 0, 0, tabOf Z, lf⟩).r := by
  obtain ⟨_, _, hf, hg, _, _⟩ := two_facts h2 hZ hV
  obtain ⟨h1, h3⟩ := two_data h2
  obtain ⟨hv, _, _, _, ht⟩ := pol_data h1
  have R := rtab_of_valid hv
  obtain ⟨c, hc, hc2, hu⟩ := inv_data (m := m) (P := tabOf Y) (e := e) (a := tabOf V lg) (by omega)
  obtain rfl : iv = c := by omega
  have hI : pdvI (m : Int) (e : Int) Y V = (iv : Int) := by
    unfold pdvI
    rw [Int.toNat_natCast, Int.toNat_natCast, hV, show lg + 1 - 1 = lg by omega]
    exact hi
  have hB : pdvB m e X Y Z V = true := by
    unfold pdvB
    rw [h2, hI, hV]
    simp
  subst hZ
  have hs := div_same (lf := Z.length) (lg := lg + 1) (inv := iv) R (fun i h => hf i h) (fun i h => hg i h) hc (by omega) (by rw [show lg + 1 - 1 = lg by omega]; exact hu) ht
  refine ⟨hc, hu, hB, ?_, ?_⟩
  · rw [hs.1]
    unfold pdvQ pdvF
    rw [if_pos hB, hI, hV]
    simp only [Int.toNat_natCast]
  · rw [hs.2]
    unfold pdvR pdvG
    rw [if_pos hB, hI, hV]
    simp only [Int.toNat_natCast]

set_option maxHeartbeats 8000000 in
theorem div_any (n o : Int) (A B F K : Option Addr) (la ca lb cb lf cf lg cg : Nat) (X Y Z V : List Int) (w : World) (hX : Ints w w.heap.size A la X) (hY : Ints w w.heap.size B lb Y) (hF : Ints w w.heap.size F lf Z) (hK : Ints w w.heap.size K lg V) (hla : la ≤ 9223372036854775807) (hlb : lb ≤ 9223372036854775807) (hlf : lf ≤ 9223372036854775807) (hlg : lg ≤ 9223372036854775807) (hca : la ≤ ca) (hcb : lb ≤ cb) :
    Calls Try.prog 13 #[.agg #[.int .i64 n, .int .i64 o, .slice A la ca, .slice B lb cb], .slice F lf cf, .slice K lg cg] w fun e' w' => ∃ u v, e' = .returned (.tuple #[u, v, .bool (pdvB n o X Y Z V)]) ∧ SliceOut w.heap.size w' u (pdvQ n o X Y Z V) ∧ SliceOut w.heap.size w' v (pdvR n o X Y Z V) ∧ Dsj (pdvQ n o X Y Z V).length (pdvR n o X Y Z V).length u v ∧ Below w.heap.size w w' := by
  have hmf : ∀ (fn : Fn) (first cap : Array Value) (w : World), (Instr.makeFunc fn first cap).run Try.prog w = .ok (.func fn first cap) w := fun _ _ _ _ => rfl
  have n67 : w.heap.size + 1 ≠ w.heap.size + 1 + 1 := by omega
  have n68 : w.heap.size + 1 ≠ w.heap.size + 1 + 1 + 1 := by omega
  have n78 : w.heap.size + 1 + 1 ≠ w.heap.size + 1 + 1 + 1 := by omega
  have HFl := Lib.hid hF.1
  have HKl := Lib.hid hK.1
  obtain ⟨W, hW, k0, k6, k7, k8, b0, hsW⟩ := pdv_boxes #[.int .i64 n, .int .i64 o, .slice A la ca, .slice B lb cb] w
  obtain ⟨c0, c1, c2, c3⟩ := blk4 k0
  have HX := Lib.hid (hX.next b0)
  have HY := Lib.hid (hY.next b0)
  have HF := Lib.hid (hF.next b0)
  have HK := Lib.hid (hK.next b0)
  have HXX := Lib.hid hX
  have HYY := Lib.hid hY
  have HW := Lib.hid hW
  have B0 := Lib.hid b0
  have K6 := Lib.hid k6
  have K7 := Lib.hid k7
  have K8 := Lib.hid k8
  have HS := Lib.hid hsW
  clear hX hY hF hK hW b0 k0 k6 k7 k8 hsW
  go_enter_defers Try.func13, Try.ntmps13
  go_wp2_with (fail)
  rw [HW.out]
  refine (pofs_any n o A B F K la ca lb cb lf cf lg cg X Y Z V W HX.out HY.out HF.out HK.out hla hlb hlf hlg hca hcb).mono ?_
  rintro e1 w1 ⟨p, q, rfl, hp, hq, hb1⟩
  have B1 := Lib.hid hb1
  have L6 := Lib.hid (K6.out.next hb1)
  have L7 := Lib.hid (K7.out.next hb1)
  have L8 := Lib.hid (K8.out.next hb1)
  have hlt8 := L8.out.lt
  clear c0 c1 c2 c3 hb1
  cases ht : twoB n o X Y Z V
  · obtain ⟨ov1, A1, l1, d1, rfl, ho1⟩ := hp.cells
    obtain ⟨ov2, A2, l2, d2, rfl, ho2⟩ := hq.cells
    have HNO := Lib.hid (show pdvB n o X Y Z V = false by unfold pdvB; rw [ht]; rfl)
    clear hp hq ht
    obtain ⟨V2, hV2⟩ : ∃ V2, (w1.alloc (.cells #[ov1, .slice A1 l1 d1] 61)).alloc (.cells #[ov2, .slice A2 l2 d2] 61) = V2 := ⟨_, rfl⟩
    have a8 : Blk V2 (w.heap.size + 1 + 1 + 1) 4 #[.bool false] := by rw [← hV2]; exact (L8.out.alloc _).alloc _
    have z8 : V2.cell? ⟨w.heap.size + 1 + 1 + 1, 0, none⟩ = some (.bool false) := a8.cell 0
    have f8 : V2.frozen? ⟨w.heap.size + 1 + 1 + 1, 0, none⟩ = false := a8.frozen 0
    have HV2 := Lib.hid hV2
    rw [← hV2] at z8 f8
    clear a8 hV2
    have V6 := Lib.hid (show Blk V2 (w.heap.size + 1) 23 #[.slice none 0 0] by rw [← HV2.out]; exact (L6.out.alloc _).alloc _)
    have V7 := Lib.hid (show Blk V2 (w.heap.size + 1 + 1) 23 #[.slice none 0 0] by rw [← HV2.out]; exact (L7.out.alloc _).alloc _)
    have V8 := Lib.hid (show Blk V2 (w.heap.size + 1 + 1 + 1) 4 #[.bool false] by rw [← HV2.out]; exact (L8.out.alloc _).alloc _)
    have BV := Lib.hid (show Below w.heap.size w V2 by rw [← HV2.out]; exact ((below_step B0.out B1.out).alloc (by omega) _).alloc (by simp; omega) _)
    rcases ho1 with rfl | rfl <;> rcases ho2 with rfl | rfl
    all_goals
      go_upto_region 3 with (fail)
      rw [HV2.out]
      obtain ⟨W3, hW3⟩ : ∃ W3, V2.setCell ⟨w.heap.size + 1 + 1 + 1, 0, none⟩ (.bool false) = W3 := ⟨_, rfl⟩
      have M6 := Lib.hid (show Blk W3 (w.heap.size + 1) 23 #[.slice none 0 0] by rw [← hW3]; exact V6.out.far (p := ⟨w.heap.size + 1 + 1 + 1, 0, none⟩) (by show w.heap.size + 1 ≠ w.heap.size + 1 + 1 + 1; omega) _)
      have M7 := Lib.hid (show Blk W3 (w.heap.size + 1 + 1) 23 #[.slice none 0 0] by rw [← hW3]; exact V7.out.far (p := ⟨w.heap.size + 1 + 1 + 1, 0, none⟩) (by show w.heap.size + 1 + 1 ≠ w.heap.size + 1 + 1 + 1; omega) _)
      have M8 := Lib.hid (show Blk W3 (w.heap.size + 1 + 1 + 1) 4 #[.bool false] by rw [← hW3]; exact V8.out.set_ 0 _)
      have B3 := Lib.hid (show Below w.heap.size w W3 by rw [← hW3]; exact BV.out.setCell (by show w.heap.size ≤ w.heap.size + 1 + 1 + 1; omega) _)
      rw [hW3]
      clear z8 f8 hW3
      have z6 : W3.cell? ⟨w.heap.size + 1, 0, none⟩ = some (.slice none 0 0) := M6.out.cell 0
      have z7 : W3.cell? ⟨w.heap.size + 1 + 1, 0, none⟩ = some (.slice none 0 0) := M7.out.cell 0
      have z8 : W3.cell? ⟨w.heap.size + 1 + 1 + 1, 0, none⟩ = some (.bool false) := M8.out.cell 0
      have f6 : W3.frozen? ⟨w.heap.size + 1, 0, none⟩ = false := M6.out.frozen 0
      have f7 : W3.frozen? ⟨w.heap.size + 1 + 1, 0, none⟩ = false := M7.out.frozen 0
      have f8 : W3.frozen? ⟨w.heap.size + 1 + 1 + 1, 0, none⟩ = false := M8.out.frozen 0
      go_wp2_with (fail)
      refine leaves_cons (f := 46) (args := #[.pointer (some ⟨w.heap.size + 1, 0, none⟩), .pointer (some ⟨w.heap.size + 1 + 1, 0, none⟩), .pointer (some ⟨w.heap.size + 1 + 1 + 1, 0, none⟩)]) (by simp) (by simp [go_sem]) ?_
      refine (dcatch_idle _ _ _ _).mono ?_
      rintro e u' w'' ⟨rfl, rfl, rfl⟩
      obtain ⟨q6, q7, q8⟩ := set3 M6.out M7.out M8.out n67 n68 n78 (.slice none 0 0) (.slice none 0 0) (.bool false)
      exact ⟨_, results_ccc rfl _ _ (w.heap.size + 1) (w.heap.size + 1 + 1) (w.heap.size + 1 + 1 + 1) _ _ _ rfl rfl rfl q6 q7 q8, div_no HNO.out (below3 B3.out (by omega) (by omega) (by omega))⟩
  · obtain ⟨hpz, hpv⟩ := two_data ht
    rw [hpz] at hp
    rw [hpv] at hq
    rcases hp with ⟨h, _⟩ | ⟨_, E1, d1, rfl, hp⟩
    · cases h
    rcases hq with ⟨h, _⟩ | ⟨_, E2, d2, rfl, hq⟩
    · cases h
    obtain ⟨hvv, _⟩ := pol_data hpz
    obtain ⟨m, e, b1, o1, b2, o2, rfl, rfl, rfl, rfl, hr, _⟩ := valid_data hvv HXX.out HYY.out hca hcb
    have R := Lib.hid (rtab_of_valid hvv)
    obtain ⟨hf8, hg8, hfm, hgm, _, _⟩ := two_facts ht HFl.out HKl.out
    have HT := Lib.hid ht
    have HP := Lib.hid hp
    have HQ := Lib.hid hq
    have HFM := Lib.hid hfm
    have HGM := Lib.hid hgm
    have HTL := Lib.hid (show tlN (tabOf Z) lf = lf by rw [← HFl.out]; exact (pol_data hpz).2.2.2.2)
    have HRw := Lib.hid hr
    clear hp hq ht hfm hgm hr hvv hpz hpv
    obtain ⟨V2, hV2⟩ : ∃ V2, (w1.alloc (.cells #[.iface 25 (.agg #[.int .i64 m, .int .i64 e, .slice (some ⟨b1, o1, none⟩) la ca, .slice (some ⟨b2, o2, none⟩) lb cb]), .slice E1 lf d1] 61)).alloc (.cells #[.iface 25 (.agg #[.int .i64 m, .int .i64 e, .slice (some ⟨b1, o1, none⟩) la ca, .slice (some ⟨b2, o2, none⟩) lb cb]), .slice E2 lg d2] 61) = V2 := ⟨_, rfl⟩
    have a8 : Blk V2 (w.heap.size + 1 + 1 + 1) 4 #[.bool false] := by rw [← hV2]; exact (L8.out.alloc _).alloc _
    have z8 : V2.cell? ⟨w.heap.size + 1 + 1 + 1, 0, none⟩ = some (.bool false) := a8.cell 0
    have f8 : V2.frozen? ⟨w.heap.size + 1 + 1 + 1, 0, none⟩ = false := a8.frozen 0
    have HV2 := Lib.hid hV2
    rw [← hV2] at z8 f8
    clear a8 hV2
    have V6 := Lib.hid (show Blk V2 (w.heap.size + 1) 23 #[.slice none 0 0] by rw [← HV2.out]; exact (L6.out.alloc _).alloc _)
    have V7 := Lib.hid (show Blk V2 (w.heap.size + 1 + 1) 23 #[.slice none 0 0] by rw [← HV2.out]; exact (L7.out.alloc _).alloc _)
    have V8 := Lib.hid (show Blk V2 (w.heap.size + 1 + 1 + 1) 4 #[.bool false] by rw [← HV2.out]; exact (L8.out.alloc _).alloc _)
    have BV := Lib.hid (show Below w.heap.size w V2 by rw [← HV2.out]; exact ((below_step B0.out B1.out).alloc (by omega) _).alloc (by simp; omega) _)
    have PZ := Lib.hid (show PolV w.heap.size V2 (.slice E1 lf d1) lf (tabOf Z) by rw [← HV2.out]; exact ((HP.out.down (by have := B0.out.size; omega)).next ((Below.refl _ _).alloc (Nat.le_refl _) _)).next ((Below.refl _ _).alloc (Nat.le_refl _) _))
    have PV2 := Lib.hid (show PolV w.heap.size V2 (.slice E2 lg d2) lg (tabOf V) by rw [← HV2.out]; exact ((HQ.out.down (by have := B0.out.size; omega)).next ((Below.refl _ _).alloc (Nat.le_refl _) _)).next ((Below.refl _ _).alloc (Nat.le_refl _) _))
    have X9 := Lib.hid (show Blk V2 w1.heap.size 61 #[.iface 25 (.agg #[.int .i64 m, .int .i64 e, .slice (some ⟨b1, o1, none⟩) la ca, .slice (some ⟨b2, o2, none⟩) lb cb]), .slice E1 lf d1] by rw [← HV2.out]; exact (Blk.new w1 _ _).alloc _)
    have X10 := Lib.hid (show Blk V2 (w1.heap.size + 1) 61 #[.iface 25 (.agg #[.int .i64 m, .int .i64 e, .slice (some ⟨b1, o1, none⟩) la ca, .slice (some ⟨b2, o2, none⟩) lb cb]), .slice E2 lg d2] by
      rw [← HV2.out]
      have := Blk.new (w1.alloc (.cells #[.iface 25 (.agg #[.int .i64 m, .int .i64 e, .slice (some ⟨b1, o1, none⟩) la ca, .slice (some ⟨b2, o2, none⟩) lb cb]), .slice E1 lf d1] 61)) 61 #[.iface 25 (.agg #[.int .i64 m, .int .i64 e, .slice (some ⟨b1, o1, none⟩) la ca, .slice (some ⟨b2, o2, none⟩) lb cb]), .slice E2 lg d2]
      rw [World.size_alloc] at this
      exact this)
    go_upto_region 3 with (fail)
    rw [HV2.out]
    obtain ⟨W3, hW3⟩ : ∃ W3, V2.setCell ⟨w.heap.size + 1 + 1 + 1, 0, none⟩ (.bool true) = W3 := ⟨_, rfl⟩
    have M6 := Lib.hid (show Blk W3 (w.heap.size + 1) 23 #[.slice none 0 0] by rw [← hW3]; exact V6.out.far (p := ⟨w.heap.size + 1 + 1 + 1, 0, none⟩) (by show w.heap.size + 1 ≠ w.heap.size + 1 + 1 + 1; omega) _)
    have M7 := Lib.hid (show Blk W3 (w.heap.size + 1 + 1) 23 #[.slice none 0 0] by rw [← hW3]; exact V7.out.far (p := ⟨w.heap.size + 1 + 1 + 1, 0, none⟩) (by show w.heap.size + 1 + 1 ≠ w.heap.size + 1 + 1 + 1; omega) _)
    have M8 := Lib.hid (show Blk W3 (w.heap.size + 1 + 1 + 1) 4 #[.bool true] by rw [← hW3]; exact V8.out.set_ 0 _)
    have B3 := Lib.hid (show Below w.heap.size w W3 by rw [← hW3]; exact BV.out.setCell (by show w.heap.size ≤ w.heap.size + 1 + 1 + 1; omega) _)
    have Y9 := (show Blk W3 w1.heap.size 61 #[.iface 25 (.agg #[.int .i64 m, .int .i64 e, .slice (some ⟨b1, o1, none⟩) la ca, .slice (some ⟨b2, o2, none⟩) lb cb]), .slice E1 lf d1] by rw [← hW3]; exact X9.out.far (p := ⟨w.heap.size + 1 + 1 + 1, 0, none⟩) (by show w1.heap.size ≠ w.heap.size + 1 + 1 + 1; omega) _)
    have Y10 := (show Blk W3 (w1.heap.size + 1) 61 #[.iface 25 (.agg #[.int .i64 m, .int .i64 e, .slice (some ⟨b1, o1, none⟩) la ca, .slice (some ⟨b2, o2, none⟩) lb cb]), .slice E2 lg d2] by rw [← hW3]; exact X10.out.far (p := ⟨w.heap.size + 1 + 1 + 1, 0, none⟩) (by show w1.heap.size + 1 ≠ w.heap.size + 1 + 1 + 1; omega) _)
    have hne : ∀ (k : Nat) (x : Int), (#[.bool false] : Array Value)[k]? ≠ some (.int .i64 x) := fun k x h => by
      match k, h with
      | 0, h => simp at h
      | k + 1, h => simp at h
    have PZ3 := Lib.hid (show PolV w.heap.size W3 (.slice E1 lf d1) lf (tabOf Z) by
      rw [← hW3]
      obtain ⟨A', c', e', h1, h2⟩ := PZ.out
      exact ⟨A', c', e', h1.setcD V8.out hne, h2⟩)
    have PV3 := Lib.hid (show PolV w.heap.size W3 (.slice E2 lg d2) lg (tabOf V) by
      rw [← hW3]
      obtain ⟨A', c', e', h1, h2⟩ := PV2.out
      exact ⟨A', c', e', h1.setcD V8.out hne, h2⟩)
    have R3 := Lib.hid (HRw.out.next B3.out)
    have hs3 := B3.out.size
    rw [hW3]
    clear z8 f8 hW3 hne
    have z6 : W3.cell? ⟨w.heap.size + 1, 0, none⟩ = some (.slice none 0 0) := M6.out.cell 0
    have z7 : W3.cell? ⟨w.heap.size + 1 + 1, 0, none⟩ = some (.slice none 0 0) := M7.out.cell 0
    have z8 : W3.cell? ⟨w.heap.size + 1 + 1 + 1, 0, none⟩ = some (.bool true) := M8.out.cell 0
    have f6 : W3.frozen? ⟨w.heap.size + 1, 0, none⟩ = false := M6.out.frozen 0
    have f7 : W3.frozen? ⟨w.heap.size + 1 + 1, 0, none⟩ = false := M7.out.frozen 0
    have f8 : W3.frozen? ⟨w.heap.size + 1 + 1 + 1, 0, none⟩ = false := M8.out.frozen 0
    have x0 := Y9.cell 0
    have x1 := Y9.cell 1
    have y0 := Y10.cell 0
    have y1 := Y10.cell 1
    simp at x0 x1 y0 y1
    clear Y9 Y10
    by_cases h0 : lg = 0
    · subst h0
      have HNO := Lib.hid (show pdvB (m : Int) (e : Int) X Y Z V = false by unfold pdvB; rw [HKl.out]; simp)
      go_wp2_with (go_at_call 48; (with_reducible refine (divided_nil E1 E2 lf d1 d2 25 (.agg #[.int .i64 m, .int .i64 e, .slice (some ⟨b1, o1, none⟩) la ca, .slice (some ⟨b2, o2, none⟩) lb cb]) m e b1 o1 la ca b2 o2 lb cb _).mono ?_); rintro e5 w5 ⟨⟨T5, u5, rfl⟩, hb5⟩; have N6 := Lib.hid (M6.out.next hb5); have N7 := Lib.hid (M7.out.next hb5); have N8 := Lib.hid (M8.out.next hb5); have B5 := Lib.hid (below_step B3.out hb5); clear hb5)
      refine leaves_cons (f := 46) (args := #[.pointer (some ⟨w.heap.size + 1, 0, none⟩), .pointer (some ⟨w.heap.size + 1 + 1, 0, none⟩), .pointer (some ⟨w.heap.size + 1 + 1 + 1, 0, none⟩)]) (by simp) (by simp [go_sem]) ?_
      refine (dcatch_panicking _ _ _ _ _ _ _ _ _ _ N6.out N7.out N8.out n67 n68 n78).mono ?_
      rintro e u' w'' ⟨rfl, rfl, rfl⟩
      obtain ⟨q6, q7, q8⟩ := set3 N6.out N7.out N8.out n67 n68 n78 (.slice none 0 0) (.slice none 0 0) (.bool false)
      exact ⟨_, results_ccc rfl _ _ (w.heap.size + 1) (w.heap.size + 1 + 1) (w.heap.size + 1 + 1 + 1) _ _ _ rfl rfl rfl q6 q7 q8, div_no HNO.out (below3 B5.out (by omega) (by omega) (by omega))⟩
    obtain ⟨lh, rfl⟩ : ∃ k, lg = k + 1 := ⟨lg - 1, by omega⟩
    by_cases hi : 0 ≤ invN m (tabOf Y) e (tabOf V lh)
    rotate_left
    · have hI : invN m (tabOf Y) e (tabOf V lh) = -1 := inv_neg hi
      have HNO := Lib.hid (show pdvB (m : Int) (e : Int) X Y Z V = false by
        unfold pdvB pdvI
        rw [Int.toNat_natCast, Int.toNat_natCast, HKl.out, show lh + 1 - 1 = lh by omega, hI]
        simp)
      have hgl := HGM.out lh (by omega)
      clear hi
      go_wp2_with (go_at_call 48; (with_reducible refine (divided_no (tabOf V) E1 E2 lf lh d1 d2 25 (.agg #[.int .i64 m, .int .i64 e, .slice (some ⟨b1, o1, none⟩) la ca, .slice (some ⟨b2, o2, none⟩) lb cb]) m e b1 o1 la ca b2 o2 lb cb (tabOf X) (tabOf Y) _ R3.out PV3.out.ints (by omega) hgl hI).mono ?_); rintro e5 w5 ⟨⟨T5, u5, rfl⟩, hb5⟩; have N6 := Lib.hid (M6.out.next hb5); have N7 := Lib.hid (M7.out.next hb5); have N8 := Lib.hid (M8.out.next hb5); have B5 := Lib.hid (below_step B3.out hb5); clear hb5)
      refine leaves_cons (f := 46) (args := #[.pointer (some ⟨w.heap.size + 1, 0, none⟩), .pointer (some ⟨w.heap.size + 1 + 1, 0, none⟩), .pointer (some ⟨w.heap.size + 1 + 1 + 1, 0, none⟩)]) (by simp) (by simp [go_sem]) ?_
      refine (dcatch_panicking _ _ _ _ _ _ _ _ _ _ N6.out N7.out N8.out n67 n68 n78).mono ?_
      rintro e u' w'' ⟨rfl, rfl, rfl⟩
      obtain ⟨q6, q7, q8⟩ := set3 N6.out N7.out N8.out n67 n68 n78 (.slice none 0 0) (.slice none 0 0) (.bool false)
      exact ⟨_, results_ccc rfl _ _ (w.heap.size + 1) (w.heap.size + 1 + 1) (w.heap.size + 1 + 1 + 1) _ _ _ rfl rfl rfl q6 q7 q8, div_no HNO.out (below3 B5.out (by omega) (by omega) (by omega))⟩
    · obtain ⟨iv, hiv⟩ := Int.eq_ofNat_of_zero_le hi
      obtain ⟨hivm, hun, hB, hQ, hR⟩ := pdv_ok HT.out HFl.out HKl.out hiv
      obtain ⟨s, hs⟩ : ∃ s, dgo m (tabOf X) (tabOf Y) (tabOf V) (lh + 1) iv lf ⟨fun _ => 0, 0, tabOf Z, lf⟩ = s := ⟨_, rfl⟩
      rw [hs] at hQ hR
      have HSS := Lib.hid hs
      have HQ9 := Lib.hid hQ
      have HR9 := Lib.hid hR
      have HB9 := Lib.hid hB
      have DY := Lib.hid (divided_yes (tabOf Z) (tabOf V) E1 E2 w.heap.size lf lh d1 d2 iv 25 (.agg #[.int .i64 m, .int .i64 e, .slice (some ⟨b1, o1, none⟩) la ca, .slice (some ⟨b2, o2, none⟩) lb cb]) m e b1 o1 la ca b2 o2 lb cb (tabOf X) (tabOf Y) W3 R3.out R.out hs3 PZ3.out PV3.out.ints (by omega) (by omega) HTL.out HFM.out HGM.out hiv hivm hun)
      clear hs hQ hR hB hi hiv hivm hun
      go_upto_region 6 with (go_at_call 48; refine DY.out.mono ?_; rw [HSS.out]; rintro e5 w5 ⟨u5, v5, rfl, hu5, hv5, hd5, hb5⟩; obtain ⟨E5, c5, rfl⟩ := hu5.shape; obtain ⟨E6, c6, rfl⟩ := hv5.shape; have P5 := Lib.hid hu5; have P6 := Lib.hid hv5; have D5 := Lib.hid hd5; have N6 := Lib.hid (M6.out.next hb5); have N7 := Lib.hid (M7.out.next hb5); have N8 := Lib.hid (M8.out.next hb5); have B5 := Lib.hid (below_step B3.out hb5); clear hb5 hu5 hv5 hd5)
      obtain ⟨V5, hV5⟩ : ∃ V5, (w5.alloc (.cells #[.iface 25 (.agg #[.int .i64 m, .int .i64 e, .slice (some ⟨b1, o1, none⟩) la ca, .slice (some ⟨b2, o2, none⟩) lb cb]), .slice E5 s.q c5] 61)).alloc (.cells #[.iface 25 (.agg #[.int .i64 m, .int .i64 e, .slice (some ⟨b1, o1, none⟩) la ca, .slice (some ⟨b2, o2, none⟩) lb cb]), .slice E6 s.r c6] 61) = V5 := ⟨_, rfl⟩
      have O6 := Lib.hid (show Blk V5 (w.heap.size + 1) 23 #[.slice none 0 0] by rw [← hV5]; exact (N6.out.alloc _).alloc _)
      have O7 := Lib.hid (show Blk V5 (w.heap.size + 1 + 1) 23 #[.slice none 0 0] by rw [← hV5]; exact (N7.out.alloc _).alloc _)
      have O8 := Lib.hid (show Blk V5 (w.heap.size + 1 + 1 + 1) 4 #[.bool true] by rw [← hV5]; exact (N8.out.alloc _).alloc _)
      have hs5 := B5.out.size
      have BV5 := Lib.hid (show Below w.heap.size w V5 by rw [← hV5]; exact (B5.out.alloc (by omega) _).alloc (by simp; omega) _)
      have P51 := Lib.hid (show PolV w.heap.size V5 (.slice E5 s.q c5) s.q s.Q by rw [← hV5]; exact (P5.out.next ((Below.refl _ _).alloc (Nat.le_refl _) _)).next ((Below.refl _ _).alloc (Nat.le_refl _) _))
      have P61 := Lib.hid (show PolV w.heap.size V5 (.slice E6 s.r c6) s.r s.R by rw [← hV5]; exact (P6.out.next ((Below.refl _ _).alloc (Nat.le_refl _) _)).next ((Below.refl _ _).alloc (Nat.le_refl _) _))
      have X11 := (show Blk V5 w5.heap.size 61 #[.iface 25 (.agg #[.int .i64 m, .int .i64 e, .slice (some ⟨b1, o1, none⟩) la ca, .slice (some ⟨b2, o2, none⟩) lb cb]), .slice E5 s.q c5] by rw [← hV5]; exact (Blk.new w5 _ _).alloc _)
      have X12 := (show Blk V5 (w5.heap.size + 1) 61 #[.iface 25 (.agg #[.int .i64 m, .int .i64 e, .slice (some ⟨b1, o1, none⟩) la ca, .slice (some ⟨b2, o2, none⟩) lb cb]), .slice E6 s.r c6] by
        rw [← hV5]
        have := Blk.new (w5.alloc (.cells #[.iface 25 (.agg #[.int .i64 m, .int .i64 e, .slice (some ⟨b1, o1, none⟩) la ca, .slice (some ⟨b2, o2, none⟩) lb cb]), .slice E5 s.q c5] 61)) 61 #[.iface 25 (.agg #[.int .i64 m, .int .i64 e, .slice (some ⟨b1, o1, none⟩) la ca, .slice (some ⟨b2, o2, none⟩) lb cb]), .slice E6 s.r c6]
        rw [World.size_alloc] at this
        exact this)
      rw [hV5]
      clear hV5 z6 z7 z8 f6 f7 f8 x0 x1 y0 y1
      have x1 := X11.cell 1
      have y1 := X12.cell 1
      simp at x1 y1
      have z6 : V5.cell? ⟨w.heap.size + 1, 0, none⟩ = some (.slice none 0 0) := O6.out.cell 0
      have z7 : V5.cell? ⟨w.heap.size + 1 + 1, 0, none⟩ = some (.slice none 0 0) := O7.out.cell 0
      have z8 : V5.cell? ⟨w.heap.size + 1 + 1 + 1, 0, none⟩ = some (.bool true) := O8.out.cell 0
      have f6 : V5.frozen? ⟨w.heap.size + 1, 0, none⟩ = false := O6.out.frozen 0
      have f7 : V5.frozen? ⟨w.heap.size + 1 + 1, 0, none⟩ = false := O7.out.frozen 0
      have f8 : V5.frozen? ⟨w.heap.size + 1 + 1 + 1, 0, none⟩ = false := O8.out.frozen 0
      clear X11 X12
      go_region
      go_wp2_with (fail)
      refine leaves_cons (f := 46) (args := #[.pointer (some ⟨w.heap.size + 1, 0, none⟩), .pointer (some ⟨w.heap.size + 1 + 1, 0, none⟩), .pointer (some ⟨w.heap.size + 1 + 1 + 1, 0, none⟩)]) (by simp) (by simp [go_sem]) ?_
      refine (dcatch_idle _ _ _ _).mono ?_
      rintro e u' w'' ⟨rfl, rfl, rfl⟩
      obtain ⟨q6, q7, q8⟩ := set3 (O6.out.drewN 1) (O7.out.drewN 1) (O8.out.drewN 1) n67 n68 n78 (.slice E5 s.q c5) (.slice E6 s.r c6) (.bool true)
      have hwd : Below V5.heap.size V5 (V5.drewN 1) := (Below.refl _ _).drew
      refine ⟨_, results_ccc rfl _ _ (w.heap.size + 1) (w.heap.size + 1 + 1) (w.heap.size + 1 + 1 + 1) _ _ _ rfl rfl rfl q6 q7 q8, _, _, by rw [HB9.out], ?_, ?_, ?_, ?_⟩
      · rw [HQ9.out]
        exact ((P51.out.next hwd).set3 (O6.out.drewN 1) (O7.out.drewN 1) (O8.out.drewN 1) n67 n68 n78 (fun _ h => by cases h) (fun _ h => by cases h) (fun _ h => by cases h) _ _ _).out
      · rw [HR9.out]
        exact ((P61.out.next hwd).set3 (O6.out.drewN 1) (O7.out.drewN 1) (O8.out.drewN 1) n67 n68 n78 (fun _ h => by cases h) (fun _ h => by cases h) (fun _ h => by cases h) _ _ _).out
      · rw [HQ9.out, HR9.out, lstF_len, lstF_len]
        exact D5.out
      · exact below3 (below_step BV5.out hwd) (by omega) (by omega) (by omega)

end Go.Proofs.Ytlcpbdbdiahmjaa



/- DividePoly of the reading side. -/
namespace Go.Proofs.Ytlcpbdbdiahmjaa
open Go.RowKit Go.Shelf
set_option maxRecDepth 100000

theorem own_far2 {w : World} {base size n g l c : Nat} {e : TypeId} {xs : List Value} {p : Addr} {u : Value} (h : w.ownsRow base e size (.slice (some ⟨g, 0, none⟩) l c) n xs) (hp : g ≠ p.block) : (w.setCell p u).ownsRow base e size (.slice (some ⟨g, 0, none⟩) l c) n xs := by
  refine ⟨h.1, ?_⟩
  rcases h.2 with ⟨h0, _⟩ | ⟨g', cap, cur, h1, h2, h3, h4⟩
  · cases h0
  · have h1' := h1
    simp only [Value.slice.injEq, Option.some.injEq, Addr.mk.injEq, and_true] at h1'
    obtain ⟨rfl, _⟩ := h1'
    exact .inr ⟨g, cap, cur, h1, h2, (Below.heap_setCell w p u g hp).trans h3, h4⟩
theorem sub_step {m lg at_ t k : Nat} {S P G R : Nat → Nat} (_h : k < lg) : putF (subF m S P G at_ t R k) (at_ + k) (S (R (at_ + k) * m + ngN m S (P (t * m + G k)))) = subF m S P G at_ t R (k + 1) := funext fun i => by
  unfold putF subF
  by_cases h : i = at_ + k
  · subst h
    rw [if_pos rfl, if_pos (by omega), show at_ + k - at_ = k by omega]
  · rw [if_neg h]
    by_cases h2 : at_ ≤ i ∧ i < at_ + k
    · rw [if_pos h2, if_pos (by omega)]
    · rw [if_neg h2, if_neg (by omega)]
theorem sub_at {m at_ t k : Nat} {S P G R : Nat → Nat} : subF m S P G at_ t R k (at_ + k) = R (at_ + k) := if_neg (by omega)
theorem sub_none {m at_ t : Nat} {S P G R : Nat → Nat} : subF m S P G at_ t R 0 = R := funext fun _ => if_neg (by omega)
theorem lit_two (w : World) : (((w.alloc (.cells #[] 3)).alloc (.cells #[] 3)).ownsRow w.heap.size 3 1 (.slice (some ⟨w.heap.size, 0, none⟩) 0 0) 0 []) ∧ (((w.alloc (.cells #[] 3)).alloc (.cells #[] 3)).ownsRow w.heap.size 3 1 (.slice (some ⟨w.heap.size + 1, 0, none⟩) 0 0) 0 []) := by
  have h1 := own_lit_K (w := w) (base := w.heap.size) (e := 3) [] (Nat.le_refl _) (by unfold maxLen; simp)
  have h2 := own_lit_K (w := w.alloc (.cells #[] 3)) (base := w.heap.size) (e := 3) [] (by simp) (by unfold maxLen; simp)
  refine ⟨?_, ?_⟩
  · have := h1.alloc (.cells #[] 3)
    simpa using this
  · simpa using h2

set_option maxHeartbeats 8000000 in
theorem sdiv_any (n o : Int) (A B F K : Option Addr) (la ca lb cb lf cf lg cg : Nat) (X Y Z V : List Int) (w : World) (hX : Ints w w.heap.size A la X) (hY : Ints w w.heap.size B lb Y) (hF : Ints w w.heap.size F lf Z) (hK : Ints w w.heap.size K lg V) (hla : la ≤ 9223372036854775807) (hlb : lb ≤ 9223372036854775807) (hlf : lf ≤ 9223372036854775807) (hlg : lg ≤ 9223372036854775807) (hca : la ≤ ca) (hcb : lb ≤ cb) :
    Calls Try.prog 14 #[.agg #[.int .i64 n, .int .i64 o, .slice A la ca, .slice B lb cb], .slice F lf cf, .slice K lg cg] w fun e' w' => ∃ u v, e' = .returned (.tuple #[u, v, .bool (pdvB n o X Y Z V)]) ∧ SliceOut w.heap.size w' u (pdvQ n o X Y Z V) ∧ SliceOut w.heap.size w' v (pdvR n o X Y Z V) ∧ Below w.heap.size w w' := by
  have HFl := Lib.hid hF.1
  have HKl := Lib.hid hK.1
  obtain ⟨W, hW⟩ : ∃ W, w.alloc (.cells #[.int .i64 n, .int .i64 o, .slice A la ca, .slice B lb cb] 25) = W := ⟨_, rfl⟩
  have k0 : Blk W w.heap.size 25 #[.int .i64 n, .int .i64 o, .slice A la ca, .slice B lb cb] := by subst hW; exact Blk.new w _ _
  have b0 : Below w.heap.size w W := by subst hW; exact (Below.refl _ _).alloc (Nat.le_refl _) _
  obtain ⟨c0, c1, c2, c3⟩ := blk4 k0
  have HX := Lib.hid (hX.next b0)
  have HY := Lib.hid (hY.next b0)
  have HF := Lib.hid (hF.next b0)
  have HK := Lib.hid (hK.next b0)
  have HXX := Lib.hid hX
  have HYY := Lib.hid hY
  have HW := Lib.hid hW
  have B0 := Lib.hid b0
  have K0 := Lib.hid k0
  have LB := Lib.hid (show ∀ x, Below W.heap.size W x → Calls Try.prog 49 #[.agg #[.int .i64 n, .int .i64 o, .slice A la ca, .slice B lb cb], .slice F lf cf, .slice K lg cg] x fun e' w' => e' = .returned (.bool (twoB n o X Y Z V)) ∧ Below x.heap.size x w' from fun x hx => l9Both_any n o A B F K la ca lb cb lf cf lg cg X Y Z V x (HX.out.next hx) (HY.out.next hx) (HF.out.next hx) (HK.out.next hx) hla hlb hlf hlg hca hcb)
  clear hX hY hF hK hW b0 k0
  cases ht : twoB n o X Y Z V
  · have HNO := Lib.hid (show pdvB n o X Y Z V = false by unfold pdvB; rw [ht]; rfl)
    rw [ht] at LB
    clear ht
    go_enter Try.func14, Try.ntmps14
    go_wp2_with (fail)
    rw [HW.out]
    refine wp_region_ext (by kernel_rfl) (by kernel_rfl) ?_
    repeat (go_big_quiet_step (first
      | (go_at_call 49; with_reducible refine calls_ext (LB.out _ (ext_below _ _)))))
    refine wpQuiet_nil ?_
    intro w1 hb1
    have B1 := Lib.hid (below_step B0.out hb1)
    clear hb1
    have hs1 := B1.out.size
    go_wp2_with (fail)
    obtain ⟨l1, l2⟩ := lit_two w1
    go_ret3
    exact ⟨.slice (some ⟨w1.heap.size, 0, none⟩) 0 0, .slice (some ⟨w1.heap.size + 1, 0, none⟩) 0 0, by rw [HNO.out]; rfl, by rw [show pdvQ _ _ X Y Z V = [] from if_neg (by rw [HNO.out]; simp)]; exact (SliceOut.of_row (n := 0) l1 rfl (by omega)).down (by omega), by rw [show pdvR _ _ X Y Z V = [] from if_neg (by rw [HNO.out]; simp)]; exact (SliceOut.of_row (n := 0) l2 rfl (by omega)).down (by omega), (B1.out.alloc (by omega) _).alloc (by simp; omega) _⟩
  obtain ⟨hpz, hpv⟩ := two_data ht
  obtain ⟨hvv, _⟩ := pol_data hpz
  obtain ⟨m, e, b1, o1, b2, o2, rfl, rfl, rfl, rfl, hr, _⟩ := valid_data hvv HXX.out HYY.out hca hcb
  have R := Lib.hid (rtab_of_valid hvv)
  obtain ⟨hf8, hg8, hfm, hgm, hzl, hvl⟩ := two_facts ht HFl.out HKl.out
  have HT := Lib.hid ht
  have HFM := Lib.hid hfm
  have HGM := Lib.hid hgm
  have HF2 := Lib.hid (show Ints W W.heap.size F lf (lstF (tabOf Z) lf) by rw [hzl]; exact HF.out)
  have HK2 := Lib.hid (show Ints W W.heap.size K lg (lstF (tabOf V) lg) by rw [hvl]; exact HK.out)
  have HRw := Lib.hid hr
  have R0 := Lib.hid (hr.next B0.out)
  rw [ht] at LB
  clear ht hfm hgm hr hvv hpz hpv hzl hvl
  by_cases h0 : lg = 0
  · subst h0
    have HNO := Lib.hid (show pdvB (m : Int) (e : Int) X Y Z V = false by unfold pdvB; rw [HKl.out]; simp)
    go_enter Try.func14, Try.ntmps14
    go_wp2_with (fail)
    rw [HW.out]
    refine wp_region_ext (by kernel_rfl) (by kernel_rfl) ?_
    repeat (go_big_quiet_step (first
      | (go_at_call 49; with_reducible refine calls_ext (LB.out _ (ext_below _ _)))))
    refine wpQuiet_nil ?_
    intro w1 hb1
    have B1 := Lib.hid (below_step B0.out hb1)
    clear hb1
    have hs1 := B1.out.size
    go_wp2_with (fail)
    obtain ⟨l1, l2⟩ := lit_two w1
    go_ret3
    exact ⟨.slice (some ⟨w1.heap.size, 0, none⟩) 0 0, .slice (some ⟨w1.heap.size + 1, 0, none⟩) 0 0, by rw [HNO.out]; rfl, by rw [show pdvQ _ _ X Y Z V = [] from if_neg (by rw [HNO.out]; simp)]; exact (SliceOut.of_row (n := 0) l1 rfl (by omega)).down (by omega), by rw [show pdvR _ _ X Y Z V = [] from if_neg (by rw [HNO.out]; simp)]; exact (SliceOut.of_row (n := 0) l2 rfl (by omega)).down (by omega), (B1.out.alloc (by omega) _).alloc (by simp; omega) _⟩
  obtain ⟨lh, hlh⟩ : ∃ k, lg = k + 1 := ⟨lg - 1, by omega⟩
  have HLH := Lib.hid hlh
  have tk0 : IntKind.i64.wrap ((lg : Int) - 1) = (lh : Int) := by rw [IntWalk.i64_in _ (by omega)]; omega
  have tk1 : (lh : Int) < (lg : Int) := by omega
  have tk2 : lh < lg := by omega
  have te0 : ((lg : Int) == 0) = false := by rw [beq_eq_false_iff_ne]; omega
  obtain ⟨bg, og, rfl, hbg⟩ := lstF_addr HK2.out (by omega)
  have gc := lstF_cell HK2.out (i := lh) tk2
  have hgl := HGM.out lh tk2
  obtain ⟨y, hy⟩ : ∃ y, tabOf V lh = y := ⟨_, rfl⟩
  have HYV := Lib.hid hy
  rw [hy] at gc hgl
  clear hlh hy
  by_cases hi : 0 ≤ invN m (tabOf Y) e y
  rotate_left
  · have HI := Lib.hid (inv_neg hi)
    have HNO := Lib.hid (show pdvB (m : Int) (e : Int) X Y Z V = false by
      unfold pdvB pdvI
      rw [Int.toNat_natCast, Int.toNat_natCast, HKl.out, HLH.out, show lh + 1 - 1 = lh by omega, HYV.out, HI.out]
      simp)
    have IC := Lib.hid (show ∀ x, RingAt x m e b1 o1 la ca b2 o2 lb cb (tabOf X) (tabOf Y) → Calls Try.prog 50 #[.agg #[.int .i64 m, .int .i64 e, .slice (some ⟨b1, o1, none⟩) la ca, .slice (some ⟨b2, o2, none⟩) lb cb], .int .i64 y] x fun e' w' => e' = .returned (.int .i64 (-1)) ∧ Below x.heap.size x w' from fun x hx => by
      have := l3Inverse_any y m e b1 o1 la ca b2 o2 lb cb (tabOf X) (tabOf Y) x hx hgl
      rwa [HI.out] at this)
    clear hi
    go_enter Try.func14, Try.ntmps14
    go_wp2_with (fail)
    rw [HW.out]
    refine wp_region_ext (by kernel_rfl) (by kernel_rfl) ?_
    repeat (go_big_quiet_step (first
      | (go_at_call 49; with_reducible refine calls_ext (LB.out _ (ext_below _ _)))
      | (go_at_call 50; with_reducible refine calls_ext (IC.out _ (R0.out.next (ext_below _ _))))))
    refine wpQuiet_nil ?_
    intro w1 hb1
    have B1 := Lib.hid (below_step B0.out hb1)
    clear hb1
    have hs1 := B1.out.size
    go_wp2_with (fail)
    obtain ⟨l1, l2⟩ := lit_two w1
    go_ret3
    exact ⟨.slice (some ⟨w1.heap.size, 0, none⟩) 0 0, .slice (some ⟨w1.heap.size + 1, 0, none⟩) 0 0, by rw [HNO.out]; rfl, by rw [show pdvQ _ _ X Y Z V = [] from if_neg (by rw [HNO.out]; simp)]; exact (SliceOut.of_row (n := 0) l1 rfl (by omega)).down (by omega), by rw [show pdvR _ _ X Y Z V = [] from if_neg (by rw [HNO.out]; simp)]; exact (SliceOut.of_row (n := 0) l2 rfl (by omega)).down (by omega), (B1.out.alloc (by omega) _).alloc (by simp; omega) _⟩
  obtain ⟨iv, hiv⟩ := Int.eq_ofNat_of_zero_le hi
  have HIV := Lib.hid hiv
  obtain ⟨c, hcm, hcc, hun⟩ := inv_data hi
  have hivm : iv < m := by omega
  obtain ⟨hB, hQ, hR⟩ : pdvB (m : Int) (e : Int) X Y Z V = true ∧ pdvQ (m : Int) (e : Int) X Y Z V = lstF (divO m (tabOf X) (tabOf Y) (tabOf Z) lf (tabOf V) lg iv (lf + 1 - lg)) (tlN (divO m (tabOf X) (tabOf Y) (tabOf Z) lf (tabOf V) lg iv (lf + 1 - lg)) lf) ∧ pdvR (m : Int) (e : Int) X Y Z V = lstF (divR m (tabOf X) (tabOf Y) (tabOf Z) lf (tabOf V) lg iv (lf + 1 - lg)) (tlN (divR m (tabOf X) (tabOf Y) (tabOf Z) lf (tabOf V) lg iv (lf + 1 - lg)) lf) := by
    have hI : pdvI (m : Int) (e : Int) Y V = (iv : Int) := by
      unfold pdvI
      rw [Int.toNat_natCast, Int.toNat_natCast, HKl.out, HLH.out, show lh + 1 - 1 = lh by omega, HYV.out]
      exact hiv
    have hB : pdvB (m : Int) (e : Int) X Y Z V = true := by
      unfold pdvB
      rw [HT.out, hI, HKl.out, HLH.out]
      simp
    refine ⟨hB, ?_, ?_⟩
    · unfold pdvQ pdvF
      rw [if_pos hB, hI, HKl.out, HFl.out]
      simp only [Int.toNat_natCast]
    · unfold pdvR pdvG
      rw [if_pos hB, hI, HKl.out, HFl.out]
      simp only [Int.toNat_natCast]
  have HB9 := Lib.hid hB
  have HQ9 := Lib.hid hQ
  have HR9 := Lib.hid hR
  have HDL := Lib.hid (divR_lt (F := tabOf Z) (G := tabOf V) (lf := lf) (lg := lg) (inv := iv) R.out HFM.out HGM.out hivm (by have := HLH.out; omega))
  obtain ⟨i0, hi', hz0, hz1, hz2⟩ := info_parts int_info
  have IC := Lib.hid (show ∀ x, RingAt x m e b1 o1 la ca b2 o2 lb cb (tabOf X) (tabOf Y) → Calls Try.prog 50 #[.agg #[.int .i64 m, .int .i64 e, .slice (some ⟨b1, o1, none⟩) la ca, .slice (some ⟨b2, o2, none⟩) lb cb], .int .i64 y] x fun e' w' => e' = .returned (.int .i64 (iv : Nat)) ∧ Below x.heap.size x w' from fun x hx => by
    have := l3Inverse_any y m e b1 o1 la ca b2 o2 lb cb (tabOf X) (tabOf Y) x hx hgl
    rwa [HIV.out] at this)
  have hiv0 : ¬ ((iv : Nat) : Int) < 0 := by omega
  clear hi hiv hcc hun hB hQ hR
  go_enter Try.func14, Try.ntmps14
  go_wp2_with (fail)
  rw [HW.out]
  refine wp_region_ext (by kernel_rfl) (by kernel_rfl) ?_
  repeat (go_big_quiet_step (first
    | (go_at_call 49; with_reducible refine calls_ext (LB.out _ (ext_below _ _)))
    | (go_at_call 50; with_reducible refine calls_ext (IC.out _ (R0.out.next (ext_below _ _))))))
  refine wpQuiet_nil ?_
  intro w1 hb1
  have B1 := Lib.hid (below_step B0.out hb1)
  have K1 := Lib.hid (K0.out.next hb1)
  have R1 := Lib.hid (R0.out.next hb1)
  have F1 := Lib.hid (HF2.out.next hb1)
  have G1 := Lib.hid (HK2.out.next hb1)
  clear hb1 c0 c1 c2 c3 gc
  obtain ⟨c0, c1, c2, c3⟩ := blk4 K1.out
  have gc := lstF_cell G1.out (i := lh) tk2
  rw [HYV.out] at gc
  go_wp2_with (fail)
  refine wp_region_ext (by kernel_rfl) (by kernel_rfl) ?_
  repeat (go_big_quiet_step (first
    | (go_at_call 50; with_reducible refine calls_ext (IC.out _ (R1.out.next (ext_below _ _))))))
  refine wpQuiet_nil ?_
  intro w2 hb2
  have B2 := Lib.hid (below_step B1.out hb2)
  have K2 := Lib.hid (K1.out.next hb2)
  have R2 := Lib.hid (R1.out.next hb2)
  have F2 := Lib.hid (F1.out.next hb2)
  have G2 := Lib.hid (G1.out.next hb2)
  have hs2 := B2.out.size
  have hbx := K2.out.lt
  clear hb2 c0 c1 c2 c3 gc
  obtain ⟨D, hD⟩ : ∃ D, w2.heap.size = D := ⟨_, rfl⟩
  have HD := Lib.hid hD
  have twf : (lf : Int) = ((lf : Nat) : Int) := rfl
  obtain ⟨D, hD⟩ : ∃ D, w2.heap.size = D := ⟨_, rfl⟩
  have HD := Lib.hid hD
  have HNG := Lib.hid (show ∀ (x : World) (a : Nat), RingAt x m e b1 o1 la ca b2 o2 lb cb (tabOf X) (tabOf Y) → a < m → Calls Try.prog 53 #[.agg #[.int .i64 m, .int .i64 e, .slice (some ⟨b1, o1, none⟩) la ca, .slice (some ⟨b2, o2, none⟩) lb cb], .int .i64 a] x fun e' w' => e' = .returned (.int .i64 (ngN m (tabOf X) a : Nat)) ∧ Below x.heap.size x w' from fun x a hx ha => by
    have := l1Neg_any a m e b1 o1 la ca b2 o2 lb cb (tabOf X) (tabOf Y) x hx ha
    rwa [R.out.ng_cast ha] at this)
  have hF0 : F = none → lf = 0 := fun hFn => by
    rcases Nat.eq_zero_or_pos lf with h | h
    · exact h
    · obtain ⟨_, _, e, _⟩ := HF2.out.2 h; rw [hFn] at e; cases e
  cases F with
  | none =>
    have hlf0 := hF0 rfl
    subst hlf0
    clear hF0
    go_wp2_with (first
      | (at_make; refine wpList_make_full w2 rfl _ _ 23 rfl D 3 i0 (.int .i64 0) 1 Try.underlying23 hi' hz0 hz1 .i64 .i64 _ _ 0 rfl rfl rfl rfl (by rw [hz2]; omega) (by unfold maxLen; omega) (by omega) ?_; intro w3 hown3 hg3; rw [hD] at hown3; rw [hD]; have B3 := Lib.hid (show Below D w2 w3 from (Below.refl _ _).grown hg3 (by omega) (by simp)); have O3 := Lib.hid (show w3.ownsRow D 3 1 (.slice (some ⟨D, 0, none⟩) 0 0) 0 ((lstF (divO m (tabOf X) (tabOf Y) (tabOf Z) 0 (tabOf V) lg iv 0) 0).map (.int .i64)) by rw [show (divO m (tabOf X) (tabOf Y) (tabOf Z) 0 (tabOf V) lg iv 0) = fun _ => 0 from rfl, ← lstV_made]; exact hown3); have hs3 := (hown3.lt D rfl).2; have o3 := (show (w3.alloc (.cells #[] 3)).ownsRow w3.heap.size 3 1 (.slice (some ⟨w3.heap.size, 0, none⟩) 0 0) 0 [] by simpa using own_lit_K (w := w3) (base := w3.heap.size) (e := 3) [] (Nat.le_refl _) (by unfold maxLen; simp)); have L3 := Lib.hid o3; have BA := Lib.hid (show Below w3.heap.size w3 (w3.alloc (.cells #[] 3)) from (Below.refl _ _).alloc (Nat.le_refl _) _); clear hown3 hg3 o3)
      | (at_builtin; refine wp_append_none_c rfl _ _ 23 rfl w3.heap.size 3 i0 1 Try.underlying23 hi' _ 0 cf [] rfl L3.out rfl ?_))
    obtain ⟨w4, hw4⟩ : ∃ x, w3.alloc (.cells #[] 3) = x := ⟨_, rfl⟩
    have OO4 := Lib.hid (show w4.ownsRow D 3 1 (.slice (some ⟨D, 0, none⟩) 0 0) 0 ((lstF (divO m (tabOf X) (tabOf Y) (tabOf Z) 0 (tabOf V) lg iv (0 + 1 - lg)) 0).map (.int .i64)) by rw [← hw4]; exact O3.out.alloc _)
    have OR4 := Lib.hid (show w4.ownsRow w3.heap.size 3 1 (.slice (some ⟨w3.heap.size, 0, none⟩) 0 0) 0 ((lstF (divR m (tabOf X) (tabOf Y) (tabOf Z) 0 (tabOf V) lg iv (0 + 1 - lg)) 0).map (.int .i64)) by rw [← hw4]; exact L3.out)
    have B4 := Lib.hid (show Below D w2 w4 by rw [← hw4]; exact B3.out.trans (BA.out.mono (by omega)))
    rw [hw4]
    clear hw4
    have twl : IntKind.i64.wrap ((0 : Int) - (lg : Int)) = -(lg : Int) := by rw [IntWalk.i64_in _ (by omega)]; omega
    have twn : ¬ (0 : Int) ≤ -(lg : Int) := by omega
    have PO := Lib.hid (PolV.of_row OO4.out (by omega))
    have PR := Lib.hid (PolV.of_row OR4.out (by omega))
    go_wp2
    obtain ⟨wo, rfl⟩ : ∃ x, x = w4 := ⟨_, rfl⟩
    go_loopg [12] 0 (fun g i wr => i = .int .i64 (-(lg : Int)) ∧ Below wo.heap.size wo wr)
    case atStart => exact ⟨rfl, Below.refl _ _⟩
    case round =>
      obtain ⟨rfl, hb⟩ := hrel
      have BX := Lib.hid (show Below D w2 wr from B4.out.trans (hb.mono (by have := B4.out.size; omega)))
      have PO1 := Lib.hid (PO.out.next hb)
      have PR1 := Lib.hid (PR.out.next hb)
      clear hb
      go_wp2_with (first
        | (go_at_call 54; ((with_reducible refine (l9Trim_any D _ 0 _ _ PO1.out).mono ?_); rintro e5 w5 ⟨v5, rfl, hp5, hb5⟩; have T5 := Lib.hid hp5; have B5 := Lib.hid hb5; have PR5 := Lib.hid (PR1.out.next hb5); have hs5 := hb5.size; clear hb5 hp5))
        | (go_at_call 54; ((with_reducible refine (l9Trim_any _ _ 0 _ _ PR5.out).mono ?_); rintro e6 w6 ⟨v6, rfl, hp6, hb6⟩; have T6 := Lib.hid hp6; have T56 := Lib.hid (T5.out.next hb6); have B6 := Lib.hid hb6; clear hb6 hp6)))
      go_ret3
      have hsr := BX.out.size
      have hBf : Below w.heap.size w w6 := B2.out.trans (((BX.out.trans (B5.out.mono (by omega))).trans (B6.out.mono (by omega))).mono (by omega))
      exact ⟨_, _, by rw [HB9.out]; rfl, by rw [HQ9.out]; exact (T56.out.down (by omega)).out, by rw [HR9.out]; exact (T6.out.down (by omega)).out, hBf⟩
  | some ad =>
    clear hF0
    go_wp2_with (first
      | (at_make; refine wpList_make_full w2 rfl _ _ 23 rfl D 3 i0 (.int .i64 0) 1 Try.underlying23 hi' hz0 hz1 .i64 .i64 _ _ lf rfl rfl rfl rfl (by rw [hz2]; omega) (by unfold maxLen; omega) (by omega) ?_; intro w3 hown3 hg3; rw [hD] at hown3; rw [hD]; have B3 := Lib.hid (show Below D w2 w3 from (Below.refl _ _).grown hg3 (by omega) (by simp)); have O3 := Lib.hid (show w3.ownsRow D 3 1 (.slice (some ⟨D, 0, none⟩) lf lf) lf ((lstF (divO m (tabOf X) (tabOf Y) (tabOf Z) lf (tabOf V) lg iv 0) lf).map (.int .i64)) by rw [show (divO m (tabOf X) (tabOf Y) (tabOf Z) lf (tabOf V) lg iv 0) = fun _ => 0 from rfl, ← lstV_made]; exact hown3); have hs3 := (hown3.lt D rfl).2; have o3 := (show (w3.alloc (.cells #[] 3)).ownsRow w3.heap.size 3 1 (.slice (some ⟨w3.heap.size, 0, none⟩) 0 0) 0 [] by simpa using own_lit_K (w := w3) (base := w3.heap.size) (e := 3) [] (Nat.le_refl _) (by unfold maxLen; simp)); have L3 := Lib.hid o3; have BA := Lib.hid (show Below w3.heap.size w3 (w3.alloc (.cells #[] 3)) from (Below.refl _ _).alloc (Nat.le_refl _) _); have hcl := Lib.hid (ints_adds ((F2.out.below (show Below D w2 w3 from B3.out) (by omega)).below BA.out (by omega))); clear hown3 hg3 o3)
      | (at_builtin; go_loud (refine wpList_append_own _ rfl _ _ 23 rfl w3.heap.size 3 i0 (.int .i64 0) 1 8 Try.underlying23 hi' hz0 hz1 hz2 rfl (by decide) _ _ _ rfl L3.out ad lf cf ((lstF (tabOf Z) lf).map (.int .i64)) rfl (by simp [lstF_len]) hcl.out map_one (by unfold maxLen; simp <;> omega) (by simp <;> omega) (by simp <;> omega) ?_; intro v3 w4 hown4 hg4 _; have B4 := Lib.hid (BA.out.grown hg4 (by simp) (fun k hk => (L3.out.lt k hk).1)); have OR := Lib.hid (show w4.ownsRow w3.heap.size 3 1 v3 lf ((lstF (tabOf Z) lf).map (.int .i64)) by simpa using hown4); clear hown4 hg4)))
    have hv4 := OR.out.2
    obtain ⟨A3, c3, rfl⟩ : ∃ A c, v3 = .slice A lf c := by
      rcases hv4 with ⟨rfl, h0⟩ | ⟨q0, cap, cur, rfl, _⟩
      · exact ⟨none, 0, by rw [h0]⟩
      · exact ⟨_, _, rfl⟩
    clear hv4
    have OO := Lib.hid (own_nextK O3.out B4.out)
    have BS := Lib.hid (show Below D w2 w4 from B3.out.trans (B4.out.mono (by omega)))
    have twl : IntKind.i64.wrap ((lf : Int) - (lg : Int)) = (lf : Int) - lg := IntWalk.i64_in _ (by omega)
    obtain ⟨D3, hD3⟩ : ∃ D3, w3.heap.size = D3 := ⟨_, rfl⟩
    rw [hD3] at OR hs3
    clear hD3 B4 B3 O3 L3 BA hcl
    go_wp2
    go_loopg [12] (lf + 1 - lg) (fun g vi wr => ∃ (d : Nat) (a : Int), d ≤ lf + 1 - lg ∧ lf + 1 - lg ≤ d + g ∧ a = (lf : Int) - lg - d ∧ vi = .int .i64 a ∧ wr.ownsRow D 3 1 (.slice (some ⟨D, 0, none⟩) lf lf) lf ((lstF (divO m (tabOf X) (tabOf Y) (tabOf Z) lf (tabOf V) lg iv d) lf).map (.int .i64)) ∧ wr.ownsRow D3 3 1 (.slice A3 lf c3) lf ((lstF (divR m (tabOf X) (tabOf Y) (tabOf Z) lf (tabOf V) lg iv d) lf).map (.int .i64)) ∧ Below D w2 wr)
    case atStart => exact ⟨0, _, Nat.zero_le _, by omega, rfl, by simp, OO.out, OR.out, BS.out⟩
    case round =>
      obtain ⟨d, a, hdN, hgd, hae, rfl, ho1, ho2, hb⟩ := hrel
      have OO1 := Lib.hid ho1
      have OR1 := Lib.hid ho2
      have BX := Lib.hid hb
      have hsr := hb.size
      clear ho1 ho2 hb
      by_cases ha : 0 ≤ a
      · obtain ⟨A, rfl⟩ := Int.eq_ofNat_of_zero_le ha
        have hA : A + lg + d = lf := by omega
        have hA2 : A = lf - lg - d := by omega
        have hdl : d < lf + 1 - lg := by omega
        obtain ⟨gr, rfl⟩ : ∃ gr, A3 = some ⟨gr, 0, none⟩ := by
          rcases OR1.out.2 with ⟨h0, h1⟩ | ⟨q0, cap, cur, h0, _⟩
          · omega
          · simp only [Value.slice.injEq] at h0; exact ⟨q0, h0.1⟩
        have hgr := OR1.out.lt gr rfl
        obtain ⟨g', rfl⟩ : ∃ g', gk = g' + 1 := ⟨gk - 1, by omega⟩
        obtain ⟨p, hp⟩ : ∃ p, A + lg = p := ⟨_, rfl⟩
        obtain ⟨q, hq⟩ : ∃ q, A + lh = q := ⟨_, rfl⟩
        have hlh := HLH.out
        have tkp : IntKind.i64.wrap ((A : Int) + (lg : Int)) = (p : Int) := by rw [IntWalk.i64_in _ (by omega)]; omega
        have tkq : IntKind.i64.wrap ((p : Int) - 1) = (q : Int) := by rw [IntWalk.i64_in _ (by omega)]; omega
        have tq1 : (q : Int) < (lf : Int) := by omega
        have tq2 : q < lf := by omega
        have tA1 : (A : Int) < (lf : Int) := by omega
        have tA2 : A < lf := by omega
        have hq2 : A + lg - 1 = q := by omega
        have hxm := HDL.out d (by omega) q tq2
        have hce := OR1.out.cellAt q (by omega)
        rw [lstV_get tq2] at hce
        obtain ⟨x, hx⟩ : ∃ x, (divR m (tabOf X) (tabOf Y) (tabOf Z) lf (tabOf V) lg iv d) q = x := ⟨_, rfl⟩
        rw [hx] at hce hxm
        obtain ⟨t, ht⟩ : ∃ t, tabOf Y (x * m + iv) = t := ⟨_, rfl⟩
        have HTT := Lib.hid ht
        have htm : t < m := by rw [← ht]; exact R.out.pc hxm hivm
        have HTOP := Lib.hid (show topT m (tabOf Y) iv lg A (divR m (tabOf X) (tabOf Y) (tabOf Z) lf (tabOf V) lg iv d) = t by unfold topT; rw [hq2, hx]; exact ht)
        have HO1 := Lib.hid (show putF (divO m (tabOf X) (tabOf Y) (tabOf Z) lf (tabOf V) lg iv d) A t = (divO m (tabOf X) (tabOf Y) (tabOf Z) lf (tabOf V) lg iv (d + 1)) by rw [← HTOP.out, hA2]; rfl)
        have HR1 := Lib.hid (show subF m (tabOf X) (tabOf Y) (tabOf V) A t (divR m (tabOf X) (tabOf Y) (tabOf Z) lf (tabOf V) lg iv d) lg = (divR m (tabOf X) (tabOf Y) (tabOf Z) lf (tabOf V) lg iv (d + 1)) by rw [← HTOP.out, hA2]; rfl)
        have RW := Lib.hid (R2.out.next (HD.out ▸ BX.out))
        have KW := Lib.hid (K2.out.next (HD.out ▸ BX.out))
        obtain ⟨c0, c1, c2, c3'⟩ := blk4 KW.out
        have HP := Lib.hid hp
        have HQ := Lib.hid hq
        have HA := Lib.hid hA
        clear hp hq hx ht hlh hA hA2 hq2 hae
        go_wp2_with (fail)
        refine wp_region_ext (by kernel_rfl) (by kernel_rfl) ?_
        repeat (go_big_quiet_step (first
          | (go_at_call 51; with_reducible refine calls_ext (l1Mul_any x iv m e b1 o1 la ca b2 o2 lb cb (tabOf X) (tabOf Y) _ (RW.out.next (ext_below _ _)) hxm hivm))))
        refine wpQuiet_nil ?_
        intro w6 hb6
        rw [HTT.out]
        have OO6 := Lib.hid (own_nextK OO1.out hb6)
        have OR6 := Lib.hid (own_nextK OR1.out hb6)
        have B6 := Lib.hid (BX.out.trans (hb6.mono (by omega)))
        have hc6 := OO6.out.cellAt A (by omega)
        rw [lstV_get tA2] at hc6
        have hf6 := OO6.out.frozenAt A
        clear hb6 hce c0 c1 c2 c3'
        go_upto_region 11 with (fail)
        obtain ⟨w7, hw7⟩ : ∃ x, w6.setCell ⟨D, A, none⟩ (.int .i64 (t : Nat)) = x := ⟨_, rfl⟩
        have OO7 := Lib.hid (show w7.ownsRow D 3 1 (.slice (some ⟨D, 0, none⟩) lf lf) lf ((lstF (divO m (tabOf X) (tabOf Y) (tabOf Z) lf (tabOf V) lg iv (d + 1)) lf).map (.int .i64)) by rw [← hw7, ← HO1.out, ← lstV_set tA2]; exact (OO6.out.stored A _).1)
        have OR7 := Lib.hid (show w7.ownsRow D3 3 1 (.slice (some ⟨gr, 0, none⟩) lf c3) lf ((lstF (subF m (tabOf X) (tabOf Y) (tabOf V) A t (divR m (tabOf X) (tabOf Y) (tabOf Z) lf (tabOf V) lg iv d) 0) lf).map (.int .i64)) by rw [← hw7, sub_none]; exact own_far2 OR6.out (by show gr ≠ D; omega))
        have B7 := Lib.hid (show Below D w2 w7 by rw [← hw7]; exact B6.out.setCell (Nat.le_refl _) _)
        rw [hw7]
        clear hw7 hc6 hf6 OO6 OR6 B6
        go_wp2_with (fail)
        go_loopg [79] lg (fun g2 vj wr2 => ∃ j : Nat, j ≤ lg ∧ lg ≤ j + g2 ∧ vj = .int .i64 j ∧ wr2.ownsRow D 3 1 (.slice (some ⟨D, 0, none⟩) lf lf) lf ((lstF (divO m (tabOf X) (tabOf Y) (tabOf Z) lf (tabOf V) lg iv (d + 1)) lf).map (.int .i64)) ∧ wr2.ownsRow D3 3 1 (.slice (some ⟨gr, 0, none⟩) lf c3) lf ((lstF (subF m (tabOf X) (tabOf Y) (tabOf V) A t (divR m (tabOf X) (tabOf Y) (tabOf Z) lf (tabOf V) lg iv d) j) lf).map (.int .i64)) ∧ Below D w2 wr2)
        case atStart => exact ⟨0, Nat.zero_le _, by omega, rfl, OO7.out, OR7.out, B7.out⟩
        case round =>
          obtain ⟨j, hj, hgj, rfl, ho1, ho2, hb⟩ := hrel
          have OO8 := Lib.hid ho1
          have OR8 := Lib.hid ho2
          have B8 := Lib.hid hb
          have hsr2 := hb.size
          clear ho1 ho2 hb
          by_cases hjl : j < lg
          · have hji : (j : Int) < (lg : Int) := by omega
            obtain ⟨r, hr⟩ : ∃ r, A + j = r := ⟨_, rfl⟩
            have hAr := HA.out
            have tkj : IntKind.i64.wrap ((A : Int) + (j : Int)) = (r : Int) := by rw [IntWalk.i64_in _ (by omega)]; omega
            have tr1 : (r : Int) < (lf : Int) := by omega
            have tr2 : r < lf := by omega
            have gj := lstF_cell (G2.out.next (HD.out ▸ B8.out)) (i := j) hjl
            have hym := HGM.out j hjl
            obtain ⟨yj, hyj⟩ : ∃ y, tabOf V j = y := ⟨_, rfl⟩
            rw [hyj] at gj hym
            have hvm := HDL.out d (by omega) r tr2
            have hcr := OR8.out.cellAt r (by omega)
            rw [lstV_get tr2, ← hr, sub_at, hr] at hcr
            obtain ⟨v, hv⟩ : ∃ v, (divR m (tabOf X) (tabOf Y) (tabOf Z) lf (tabOf V) lg iv d) r = v := ⟨_, rfl⟩
            rw [hv] at hcr hvm
            have hpm : tabOf Y (t * m + yj) < m := R.out.pc htm hym
            obtain ⟨u, hu⟩ : ∃ u, tabOf Y (t * m + yj) = u := ⟨_, rfl⟩
            have hum : u < m := by rw [← hu]; exact hpm
            have hnm := R.out.ng_lt hum
            obtain ⟨ng, hng⟩ : ∃ ng, ngN m (tabOf X) u = ng := ⟨_, rfl⟩
            have HSB := Lib.hid (show putF (subF m (tabOf X) (tabOf Y) (tabOf V) A t (divR m (tabOf X) (tabOf Y) (tabOf Z) lf (tabOf V) lg iv d) j) r (tabOf X (v * m + ng)) = subF m (tabOf X) (tabOf Y) (tabOf V) A t (divR m (tabOf X) (tabOf Y) (tabOf Z) lf (tabOf V) lg iv d) (j + 1) by
              rw [← hng, ← hu, ← hyj, ← hv, ← hr]
              exact sub_step hjl)
            have NG := Lib.hid (show ∀ x, RingAt x m e b1 o1 la ca b2 o2 lb cb (tabOf X) (tabOf Y) → Calls Try.prog 53 #[.agg #[.int .i64 m, .int .i64 e, .slice (some ⟨b1, o1, none⟩) la ca, .slice (some ⟨b2, o2, none⟩) lb cb], .int .i64 u] x fun e' w' => e' = .returned (.int .i64 (ng : Nat)) ∧ Below x.heap.size x w' from fun x hx => by
              have := HNG.out x u hx hum
              rwa [hng] at this)
            have MU := Lib.hid (show ∀ x, RingAt x m e b1 o1 la ca b2 o2 lb cb (tabOf X) (tabOf Y) → Calls Try.prog 51 #[.agg #[.int .i64 m, .int .i64 e, .slice (some ⟨b1, o1, none⟩) la ca, .slice (some ⟨b2, o2, none⟩) lb cb], .int .i64 t, .int .i64 yj] x fun e' w' => e' = .returned (.int .i64 (u : Nat)) ∧ Below x.heap.size x w' from fun x hx => by
              have := l1Mul_any t yj m e b1 o1 la ca b2 o2 lb cb (tabOf X) (tabOf Y) x hx htm hym
              rwa [hu] at this)
            rw [hng] at hnm
            have RW2 := Lib.hid (R2.out.next (HD.out ▸ B8.out))
            have KW2 := Lib.hid (K2.out.next (HD.out ▸ B8.out))
            clear hr hAr hyj hv hu hpm hng
            go_wp2_with (fail)
            refine wp_region_makers 19 (fun _ => false) (fun _ _ _ => True) (fun _ _ => True) (fun _ => undef) probe (by kernel_rfl) (by kernel_rfl) (fun _ _ _ _ _ _ => trivial) (fun _ _ _ _ _ => trivial) (fun _ _ => trivial) ?_
            intro V9 hV9 vs _
            have cV : ∃ x, extC V9 x := ⟨V9, extC_of (Below.refl _ _)⟩
            have RV9 := Lib.hid (RW2.out.next hV9)
            obtain ⟨p0, p1, p2, p3⟩ := blk4 (KW2.out.next hV9)
            have OV := Lib.hid (own_nextK OR8.out hV9)
            have hcv := OV.out.cellAt r (by omega)
            rw [← OR8.out.cellAt r (by omega), hcr] at hcv
            have HCR := Lib.hid hcr
            clear hV9 hcr gj
            simp only [List.take_succ_cons, List.take_zero, List.drop_succ_cons, List.drop_zero]
            refine wpV_quiet cV 19 0 _ _ (by decide) (by decide) ?_
            simp only [List.take_succ_cons, List.take_zero, List.drop_succ_cons, List.drop_zero]
            repeat (go_big_quiet_step (first
              | (go_at_call 51; with_reducible refine calls_ext (MU.out _ (RV9.out.next (ext_below _ _))))
              | (go_at_call 53; with_reducible refine calls_ext (NG.out _ (RV9.out.next (ext_below _ _))))
              | (go_at_call 52; with_reducible refine calls_ext (l1Add_any v ng m e b1 o1 la ca b2 o2 lb cb (tabOf X) (tabOf Y) _ (RV9.out.next (ext_below _ _)) hvm hnm))))
            refine wpQuiet_nil ?_
            refine wpV_nil ?_
            intro w9 hb9 _ _
            have OO9 := Lib.hid (own_nextK OO8.out hb9)
            have OR9 := Lib.hid (own_nextK OR8.out hb9)
            have B9 := Lib.hid (B8.out.trans (hb9.mono (by omega)))
            have hc9 := OR9.out.cellAt r (by omega)
            rw [← OR8.out.cellAt r (by omega), HCR.out] at hc9
            have hf9 := OR9.out.frozenAt r
            clear hcv hb9 p0 p1 p2 p3
            go_wp2_with (fail)
            go_roundg (lg - (j + 1))
            case measure => omega
            case rel => exact ⟨j + 1, by omega, by omega, by go_num, own_far2 OO9.out (by show D ≠ gr; omega), by rw [← HSB.out, ← lstV_set tr2]; exact (OR9.out.stored r _).1, B9.out.setCell (by show D ≤ gr; omega) _⟩
          · have hji : ¬ (j : Int) < (lg : Int) := by omega
            have hjg : j = lg := by omega
            have OR9 := Lib.hid (by have h := OR8.out; rw [hjg, HR1.out] at h; exact h)
            have tkm : IntKind.i64.wrap ((A : Int) - 1) = (A : Int) - 1 := IntWalk.i64_in _ (by omega)
            have hAr := HA.out
            clear hjg
            go_wp2_with (fail)
            go_roundg g'
            case measure => omega
            case rel => exact ⟨d + 1, _, by omega, by omega, by omega, rfl, OO8.out, OR9.out, B8.out⟩
      · have hdd : d = lf + 1 - lg := by omega
        have PO1 := Lib.hid (PolV.of_row OO1.out (by omega))
        have PR1 := Lib.hid (PolV.of_row OR1.out (by omega))
        rw [hdd] at PO1 PR1
        go_wp2_with (first
          | (go_at_call 54; ((with_reducible refine (l9Trim_any D _ lf _ _ PO1.out).mono ?_); rintro e5 w5 ⟨v5, rfl, hp5, hb5⟩; have T5 := Lib.hid hp5; have B5 := Lib.hid hb5; have PR5 := Lib.hid (PR1.out.next hb5); have hs5 := hb5.size; clear hb5 hp5))
          | (go_at_call 54; ((with_reducible refine (l9Trim_any _ _ lf _ _ PR5.out).mono ?_); rintro e6 w6 ⟨v6, rfl, hp6, hb6⟩; have T6 := Lib.hid hp6; have T56 := Lib.hid (T5.out.next hb6); have B6 := Lib.hid hb6; clear hb6 hp6)))
        go_ret3
        have hsr := BX.out.size
        have hBf : Below w.heap.size w w6 := B2.out.trans (((BX.out.trans (B5.out.mono (by omega))).trans (B6.out.mono (by omega))).mono (by omega))
        exact ⟨_, _, by rw [HB9.out]; rfl, by rw [HQ9.out]; exact (T56.out.down (by omega)).out, by rw [HR9.out]; exact (T6.out.down (by omega)).out, hBf⟩

end Go.Proofs.Ytlcpbdbdiahmjaa



/- Two lists that a call hands back: apart from each other. -/
namespace Go.Proofs.Ytlcpbdbdiahmjaa
open Go.RowKit

theorem Dsj.apart {q r c d : Nat} {A B : Option Addr} (h : Dsj q r (.slice A q c) (.slice B r d)) : Apart A q B r := fun p ⟨g, off, j, e, hj, ep⟩ ⟨g', off', j', e', hj', ep'⟩ => by
  subst e e'
  have h1 := h (by omega) (by omega) g off c g' off' d rfl rfl
  rw [ep] at ep'
  simp only [Addr.mk.injEq] at ep'
  exact h1 ep'.1
theorem Apart.symm {A B : Option Addr} {q r : Nat} (h : Apart A q B r) : Apart B r A q := fun p h1 h2 => h p h2 h1

end Go.Proofs.Ytlcpbdbdiahmjaa

