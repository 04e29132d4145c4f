/- The program's ParseRing. -/
import Derived.Test.YtplligjoegjngaaP8
import Derived.Test.YtplligjoegjngaaM3
import Derived.Test.YtplligjoegjngaaR0
import Derived.Deep.Cut
namespace Go.Proofs.Ytplligjoegjngaa
open Go.RowKit
set_option maxRecDepth 100000

def rowPhi (D L : Nat) (T : List Int) (v : Value) (w : World) : Prop := ∃ g cap, v = .slice (some ⟨g, 0, none⟩) L cap ∧ D ≤ g ∧ w.ownsRow D 3 1 (.slice (some ⟨g, 0, none⟩) L cap) L (intsV T)
def boxPhi (D : Nat) (v : Value) (w : World) : Prop := ∃ g, v = .pointer (some ⟨g, 0, none⟩) ∧ D ≤ g ∧ Blk w g 24 #[.int .i64 0, .int .i64 0, .slice none 0 0, .slice none 0 0]
theorem rowPhi_stable {D L : Nat} {T : List Int} {v : Value} {w w' : World} (h : rowPhi D L T v w) (hb : Below w.heap.size w w') : rowPhi D L T v w' := by
  obtain ⟨g, cap, h1, h2, h3⟩ := h
  exact ⟨g, cap, h1, h2, h3.kept (Below.grown_ hb) (by simp [Value.ownBlock])⟩
theorem boxPhi_stable {D : Nat} {v : Value} {w w' : World} (h : boxPhi D v w) (hb : Below w.heap.size w w') : boxPhi D v w' := by
  obtain ⟨g, h1, h2, h3⟩ := h
  exact ⟨g, h1, h2, h3.below hb h3.lt⟩
/-- The facts of the makers of a ring: two rows and a box. -/
def tabPhi (p q r D L : Nat) (T U : List Int) (i : Nat) (v : Value) (w : World) : Prop := (i = p → rowPhi D L T v w) ∧ (i = q → rowPhi D L U v w) ∧ (i = r → boxPhi D v w)
theorem tabPhi_stable {p q r D L : Nat} {T U : List Int} (i : Nat) (v : Value) (w w' : World) (h : tabPhi p q r D L T U i v w) (hb : Below w.heap.size w w') : tabPhi p q r D L T U i v w' :=
  ⟨fun e => rowPhi_stable (h.1 e) hb, fun e => rowPhi_stable (h.2.1 e) hb, fun e => boxPhi_stable (h.2.2 e) hb⟩
def tabSh (p q r L : Nat) (i : Nat) (v : Value) : Prop := (i = p → ∃ g cap, v = .slice (some ⟨g, 0, none⟩) L cap) ∧ (i = q → ∃ g cap, v = .slice (some ⟨g, 0, none⟩) L cap) ∧ (i = r → ∃ g, v = .pointer (some ⟨g, 0, none⟩))
theorem tabSh_of {p q r D L : Nat} {T U : List Int} (i : Nat) (v : Value) (w : World) (h : tabPhi p q r D L T U i v w) : tabSh p q r L i v :=
  ⟨fun e => by obtain ⟨g, cap, h1, _⟩ := h.1 e; exact ⟨g, cap, h1⟩, fun e => by obtain ⟨g, cap, h1, _⟩ := h.2.1 e; exact ⟨g, cap, h1⟩, fun e => by obtain ⟨g, h1, _⟩ := h.2.2 e; exact ⟨g, h1⟩⟩
theorem tabSh_zero {p q r L : Nat} (h1 : p ≠ r) (h2 : q ≠ r) (i : Nat) : tabSh p q r L i (if i = r then .pointer (some ⟨0, 0, none⟩) else .slice (some ⟨0, 0, none⟩) L L) :=
  ⟨fun e => ⟨0, L, by rw [if_neg (by omega)]⟩, fun e => ⟨0, L, by rw [if_neg (by omega)]⟩, fun e => ⟨0, by rw [if_pos e]⟩⟩

theorem size_extract {s : ByteArray} {a b : Nat} : (s.extract a b).size = min b s.size - a := by simp [ByteArray.size_extract]

theorem str_true {a b : ByteArray} (h : a = b) : (a.toList == b.toList) = true := by rw [h]; simp
theorem str_false {a b : ByteArray} (h : ¬ a = b) : (a.toList == b.toList) = false := by
  rw [beq_eq_false_iff_ne]
  intro e
  rw [ByteArray.toList_eq, ByteArray.toList_eq] at e
  refine h ?_
  cases a
  cases b
  congr 1
  exact Array.toList_inj.1 e
def mk3 (p q r i : Nat) : Bool := i == p || i == q || i == r
theorem digit_any {c : UInt8} {O : Int} (hO : O = digI c) (w : World) :
    Calls Try.prog 108 #[.string ⟨#[48, 49, 50, 51, 52, 53, 54, 55, 56, 57, 97, 98, 99, 100, 101, 102]⟩, .int .u8 (c.toNat : Int)] w fun e w' => e = .returned (.int .i64 O) ∧ Below w.heap.size w w' :=
  (indexByte_any _ _ _).mono fun e w' ⟨h1, h2⟩ => ⟨by rw [h1, hO]; simp [digI, digL], h2 ▸ Below.refl _ _⟩
/-- What a text of this size tells, if it tells a ring. -/
theorem text_reads {s : ByteArray} {k : Nat} {o : Int} {X Y : List Int} (h : IsText s k o X Y) (h0 : 0 < s.size) : o = digI s[0] ∧ X = rdTo k (s.extract 2 s.size).data.toList (k * k) ∧ Y = rdTo k (s.extract (2 + k * (k + 1)) s.size).data.toList (k * k) := by
  obtain ⟨m, e, h1, rfl, t⟩ := text_data h
  have : k = m := by omega
  subst this
  have hd : ∀ i, (s.extract i s.size).data.toList = s.data.toList.drop i := fun i => by
    rw [ba_extract, List.take_of_length_le]
    rw [List.length_drop]
    simp
  rw [hd, hd, t.sums, t.products]
  refine ⟨?_, rfl, rfl⟩
  rw [← t.one]
  congr 1
  rw [List.getD_eq_getElem?_getD, List.getElem?_eq_getElem (by simpa using h0)]; rfl
theorem text_valid {s : ByteArray} {n o : Int} {X Y : List Int} (h : fmtV n o X Y = s) (h0 : 0 < s.size) : IsText s n o X Y := by
  refine ⟨?_, h⟩
  cases hv : validB n o X Y
  · rw [fmtV_no (by rw [hv]; simp)] at h
    subst h
    cases h0
  · rfl
theorem cut_sizes {s : ByteArray} {T : Nat} (h : s.size = 1 + 2 * T) (hT : T ≤ 272) (h1 : 2 ≤ T) : T ≤ (s.extract 2 s.size).size + 1 ∧ (s.extract 2 s.size).size ≤ 9223372036854775807 ∧ T ≤ (s.extract (2 + T) s.size).size + 1 ∧ (s.extract (2 + T) s.size).size ≤ 9223372036854775807 := by
  rw [size_extract, size_extract, Nat.min_self]
  omega
theorem cut_nat {T : Nat} : (2 + (T : Int)).toNat = 2 + T := by omega

set_option maxHeartbeats 4000000 in
theorem parse_any (s : ByteArray) (w : World) :
    Calls Try.prog 45 #[.string s] w fun e' w' => ∃ (v : Value) (n o : Int) (X Y : List Int) (ok : Bool), e' = .returned (.tuple #[v, .bool ok]) ∧
      ParseIs s ok n o X Y ∧ RingOut w.heap.size w' v n o X Y ∧ Below w.heap.size w w' := by
  go_enter Try.func45, Try.ntmps45
  go_wp2
  obtain ⟨W, hW⟩ : ∃ W, w.alloc (.cells #[.int .i64 0, .int .i64 0, .slice none 0 0, .slice none 0 0] 24) = W := ⟨_, rfl⟩
  have K0 := Lib.hid (show Blk W w.heap.size 24 #[.int .i64 0, .int .i64 0, .slice none 0 0, .slice none 0 0] by subst hW; exact Blk.new w _ _)
  have B0 := Lib.hid (show Below w.heap.size w W by subst hW; exact (Below.refl _ _).alloc (Nat.le_refl _) _)
  rw [hW]
  clear hW
  go_loopg [4] 16 (fun g i wr => ∃ k : Nat, 1 ≤ k ∧ k ≤ 17 ∧ 17 ≤ k + g ∧ i = .int .i64 k ∧ NoSize s k ∧ Below W.heap.size W wr)
  case atStart => exact ⟨1, by omega, by omega, by omega, rfl, no_zero, Below.refl _ _⟩
  case round =>
    obtain ⟨k, hk1, hk, hg, rfl, hno, hbel⟩ := hrel
    have HN := Lib.hid hno
    have BW := Lib.hid hbel
    have ZK := Lib.hid (K0.out.below hbel K0.out.lt)
    clear hno hbel
    by_cases hlt : k ≤ 16
    · obtain ⟨q1, q2⟩ := w_le hlt
      have i1 : (k : Int) * ((k : Int) + 1) ≤ 272 := by rw [q2]; omega
      have i2 : 0 ≤ (k : Int) * ((k : Int) + 1) := by rw [q2]; omega
      have Q2 := Lib.hid q2
      by_cases hsz : s.size = 1 + 2 * (k * (k + 1))
      · have HS := Lib.hid hsz
        have t1 : ((s.size : Int) == 1 + 2 * ((k : Int) * ((k : Int) + 1))) = true := by rw [beq_iff_eq, q2]; omega
        have i3 : 1 + 2 * ((k : Int) * ((k : Int) + 1)) ≤ s.size := by rw [q2]; omega
        have i4 : (s.size : Int) ≤ 1 + 2 * ((k : Int) * ((k : Int) + 1)) := by rw [q2]; omega
        have i5 : 5 ≤ s.size := by
          have : 1 * 2 ≤ k * (k + 1) := Nat.mul_le_mul hk1 (by omega)
          omega
        have hqs : k * k ≤ 256 := Nat.mul_le_mul hlt hlt
        clear q2 hsz
        have i6 : (2 : Int) ≤ (s.size : Int) := by omega
        have i7 : (0 : Int) < (s.size : Int) := by omega
        have i9 : 0 < s.size := by omega
        have i8 : 2 + (k : Int) * ((k : Int) + 1) ≤ (s.size : Int) := by omega
        go_upto_region 6 with (fail)
        obtain ⟨z1, z2, z3, z4⟩ := cut_sizes HS.out q1 (by
          have : 1 * 2 ≤ k * (k + 1) := Nat.mul_le_mul hk1 (by omega)
          omega)
        obtain ⟨T1, hT1⟩ : ∃ T1, T1 = rdTo k (s.extract 2 s.size).data.toList (k * k) := ⟨_, rfl⟩
        obtain ⟨T2, hT2⟩ : ∃ T2, T2 = rdTo k (s.extract (2 + k * (k + 1)) s.size).data.toList (k * k) := ⟨_, rfl⟩
        obtain ⟨O, hO⟩ : ∃ O, O = digI (s[0]'i9) := ⟨_, rfl⟩
        have HO := Lib.hid hO
        have HT1 := Lib.hid hT1
        have HT2 := Lib.hid hT2
        clear hT1 hT2 hO
        have hw3 : (2 + (k : Int) * ((k : Int) + 1)).toNat = 2 + k * (k + 1) := by rw [Q2.out]; exact cut_nat
        have Z1 := Lib.hid z1
        have Z2 := Lib.hid z2
        have Z3 := Lib.hid z3
        have Z4 := Lib.hid z4
        clear z1 z2 z3 z4
        have hw1 : IntKind.i64.wrap (2 + (k : Int) * ((k : Int) + 1)) = 2 + (k : Int) * ((k : Int) + 1) := IntWalk.i64_in _ (by omega)
        have hw2 : 0 ≤ 2 + (k : Int) * ((k : Int) + 1) := by omega
        refine wp_region_makers 16 (mk3 7 13 15) (tabPhi 7 13 15 W.heap.size (k * k) T1 T2) (tabSh 7 13 15 (k * k)) (fun i => if i = 15 then .pointer (some ⟨0, 0, none⟩) else .slice (some ⟨0, 0, none⟩) (k * k) (k * k)) probe (by kernel_rfl) (by kernel_rfl) tabPhi_stable (fun i v x _ => tabSh_of i v x) (fun i _ => tabSh_zero (by decide) (by decide) i) ?_
        intro V hV vs hvs
        obtain ⟨g1, cap1, e1⟩ : ∃ g cap, vs 7 = .slice (some ⟨g, 0, none⟩) (k * k) cap := (hvs 7 rfl).1 rfl
        obtain ⟨g2, cap2, e2⟩ : ∃ g cap, vs 13 = .slice (some ⟨g, 0, none⟩) (k * k) cap := (hvs 13 rfl).2.1 rfl
        obtain ⟨bx, e3⟩ : ∃ g, vs 15 = .pointer (some ⟨g, 0, none⟩) := (hvs 15 rfl).2.2 rfl
        have cW : ∃ x, extC V x := ⟨V, extC_of (Below.refl _ _)⟩
        have big : ∀ x, extC V x → W.heap.size ≤ x.heap.size := fun x ⟨u, hu⟩ => by rw [hu]; exact Nat.le_trans (Nat.le_trans BW.out.size hV.size) (ext_size V u)
        simp only [List.take_succ_cons, List.take_zero, List.drop_succ_cons, List.drop_zero]
        refine wpV_quiet cW 7 0 _ _ (by decide) (by decide) ?_
        simp only [List.take_succ_cons, List.take_zero, List.drop_succ_cons, List.drop_zero]
        repeat (go_big_quiet_step ((go_at_call 108; with_reducible refine calls_ext (digit_any HO.out _))))
        refine wpQuiet_nil ?_
        refine wpV_make' rfl rfl (fun x hx => ?_) ?_
        · unfold makesAt
          go_simp
          refine ⟨rfl, (readTable_any _ k x hk1 hlt Z1.out Z2.out).mono ?_⟩
          rintro _ x' ⟨g, cap, rfl, ho, hb⟩
          rw [← HT1.out] at ho
          exact ⟨_, rfl, hb, ⟨fun _ => ⟨g, cap, rfl, Nat.le_trans (big x hx) (ho.lt g rfl).1, own_base ho (big x hx)⟩, fun e => absurd e (by decide), fun e => absurd e (by decide)⟩, fun b e => by simp [blockOf] at e; subst e; exact ho.lt g rfl⟩
        rw [e1]
        go_simp
        refine wpV_quiet cW 5 _ _ _ (by decide) (by decide) ?_
        simp only [List.take_succ_cons, List.take_zero, List.drop_succ_cons, List.drop_zero]
        repeat (go_big_quiet_step (fail))
        refine wpQuiet_nil ?_
        refine wpV_make' rfl rfl (fun x hx => ?_) ?_
        · unfold makesAt
          go_simp
          refine ⟨rfl, (readTable_any _ k x hk1 hlt Z3.out Z4.out).mono ?_⟩
          rintro _ x' ⟨g, cap, rfl, ho, hb⟩
          rw [← HT2.out] at ho
          exact ⟨_, rfl, hb, ⟨fun e => absurd e (by decide), fun _ => ⟨g, cap, rfl, Nat.le_trans (big x hx) (ho.lt g rfl).1, own_base ho (big x hx)⟩, fun e => absurd e (by decide)⟩, fun b e => by simp [blockOf] at e; subst e; exact ho.lt g rfl⟩
        rw [e2]
        go_simp
        refine wpV_quiet cW 1 _ _ _ (by decide) (by decide) ?_
        simp only [List.take_succ_cons, List.take_zero, List.drop_succ_cons, List.drop_zero]
        repeat (go_big_quiet_step (fail))
        refine wpQuiet_nil ?_
        refine wpV_make' rfl rfl (fun x hx => makesAt_mono (makes_box rfl x) fun v x' ⟨g, h1, h2, h3⟩ => ⟨fun e => absurd e (by decide), fun e => absurd e (by decide), fun _ => ⟨g, h1, Nat.le_trans (big x hx) h2, h3⟩⟩) ?_
        rw [e3]
        go_simp
        refine wpV_nil ?_
        intro w2 hb2 hfacts hapart
        have n12 : g1 ≠ g2 := fun e => hapart 7 13 (by decide) (by decide) (by decide) rfl rfl g1 (by rw [e1]; rfl) (by rw [e2, e]; rfl)
        obtain ⟨d1, r1⟩ : W.heap.size ≤ g1 ∧ w2.ownsRow W.heap.size 3 1 (.slice (some ⟨g1, 0, none⟩) (k * k) cap1) (k * k) (intsV T1) := by
          obtain ⟨g, cap, h1, h2, h3⟩ := (hfacts 7 (by decide) rfl).1 rfl
          rw [e1] at h1
          injection h1 with h1 _ h4
          injection h1 with h1
          injection h1 with h1
          subst h1 h4
          exact ⟨h2, h3⟩
        obtain ⟨d2, r2⟩ : W.heap.size ≤ g2 ∧ w2.ownsRow W.heap.size 3 1 (.slice (some ⟨g2, 0, none⟩) (k * k) cap2) (k * k) (intsV T2) := by
          obtain ⟨g, cap, h1, h2, h3⟩ := (hfacts 13 (by decide) rfl).2.1 rfl
          rw [e2] at h1
          injection h1 with h1 _ h4
          injection h1 with h1
          injection h1 with h1
          subst h1 h4
          exact ⟨h2, h3⟩
        obtain ⟨d3, r3⟩ : W.heap.size ≤ bx ∧ Blk w2 bx 24 #[.int .i64 0, .int .i64 0, .slice none 0 0, .slice none 0 0] := by
          obtain ⟨g, h1, h2, h3⟩ := (hfacts 15 (by decide) rfl).2.2 rfl
          rw [e3] at h1
          injection h1 with h1
          injection h1 with h1
          injection h1 with h1
          subst h1
          exact ⟨h2, h3⟩
        clear hfacts hapart hvs e1 e2 e3 hw1 hw2 hw3
        have R1 := Lib.hid r1
        have R2 := Lib.hid r2
        have R3 := Lib.hid r3
        have ne1 : g1 ≠ bx := fun e => own_blk_ne r1 r3 (by decide) (by simp [Value.ownBlock, e])
        have ne2 : g2 ≠ bx := fun e => own_blk_ne r2 r3 (by decide) (by simp [Value.ownBlock, e])
        have hl1 := (r1.lt g1 rfl).2
        have hl2 := (r2.lt g2 rfl).2
        have c0 := r3.cell 0
        have c1 := r3.cell 1
        have c2 := r3.cell 2
        have c3 := r3.cell 3
        have f0 := r3.frozen 0
        have f1 := r3.frozen 1
        have f2 := r3.frozen 2
        have f3 := r3.frozen 3
        simp at c0 c1 c2 c3
        go_upto_region 7 with (fail)
        obtain ⟨U, hU⟩ : ∃ U, store4 w2 bx (.int .i64 k) (.int .i64 O) (.slice (some ⟨g1, 0, none⟩) (k * k) cap1) (.slice (some ⟨g2, 0, none⟩) (k * k) cap2) = U := ⟨_, rfl⟩
        have hU' := hU
        unfold store4 at hU'
        have KU := Lib.hid (show Blk U bx 24 #[.int .i64 k, .int .i64 O, .slice (some ⟨g1, 0, none⟩) (k * k) cap1, .slice (some ⟨g2, 0, none⟩) (k * k) cap2] by rw [← hU]; exact store4_blk R3.out)
        have BU := Lib.hid (show Below W.heap.size wr U by rw [← hU]; exact store4_below (hb2.mono BW.out.size) d3)
        have U1 := Lib.hid (show U.ownsRow W.heap.size 3 1 (.slice (some ⟨g1, 0, none⟩) (k * k) cap1) (k * k) (intsV T1) by rw [← hU]; exact store4_own R1.out (by simpa [Value.ownBlock] using ne1))
        have U2 := Lib.hid (show U.ownsRow W.heap.size 3 1 (.slice (some ⟨g2, 0, none⟩) (k * k) cap2) (k * k) (intsV T2) by rw [← hU]; exact store4_own R2.out (by simpa [Value.ownBlock] using ne2))
        rw [hU']
        clear hU hU' c0 c1 c2 c3 f0 f1 f2 f3 r1 r2 r3 hb2 cW big
        have ze := ZK.out.below BU.out K0.out.lt
        have ZE := Lib.hid ze
        have I1 := Lib.hid (ints_of_own U1.out (by simp [HT1.out, rdTo]))
        have I2 := Lib.hid (ints_of_own U2.out (by simp [HT2.out, rdTo]))
        have c0 := KU.out.cell 0
        have c1 := KU.out.cell 1
        have c2 := KU.out.cell 2
        have c3 := KU.out.cell 3
        simp at c0 c1 c2 c3
        have hcp1 : k * k ≤ cap1 := by
          rcases U1.out.2 with ⟨h, _⟩ | ⟨g, cap, cur, h, _, _, hc, _⟩
          · cases h
          · injection h with _ _ h; omega
        have hcp2 : k * k ≤ cap2 := by
          rcases U2.out.2 with ⟨h, _⟩ | ⟨g, cap, cur, h, _, _, hc, _⟩
          · cases h
          · injection h with _ _ h; omega
        clear ze
        by_cases htx : fmtV k O T1 T2 = s
        · have HX := Lib.hid htx
          have t2 := str_true htx
          clear htx
          go_wp2_with (go_at_call 49; refine (format_any k O _ _ (k * k) cap1 (k * k) cap2 T1 T2 _ I1.out I2.out (by omega) (by omega) hcp1 hcp2).mono ?_; rintro e7 w7 ⟨rfl, hb7⟩; have KV := Lib.hid (KU.out.below hb7 KU.out.lt); have ZV := Lib.hid (ZE.out.below hb7 ZE.out.lt); have BV := Lib.hid hb7; have c0 := KV.out.cell 0; have c1 := KV.out.cell 1; have c2 := KV.out.cell 2; have c3 := KV.out.cell 3; have d0 := ZV.out.cell 0; have d1 := ZV.out.cell 1; have d2 := ZV.out.cell 2; have d3 := ZV.out.cell 3; have f0 := ZV.out.frozen 0; have f1 := ZV.out.frozen 1; have f2 := ZV.out.frozen 2; have f3 := ZV.out.frozen 3; simp at c0 c1 c2 c3 d0 d1 d2 d3; clear hb7)
          refine bodyPost_ret (v := .tuple #[.agg #[.int .i64 k, .int .i64 O, .slice (some ⟨g1, 0, none⟩) (k * k) cap1, .slice (some ⟨g2, 0, none⟩) (k * k) cap2], .bool true]) ?_ rfl ⟨_, k, O, T1, T2, true, rfl, .inl ⟨rfl, text_valid HX.out i9⟩, ?_, ?_⟩
          · exact results_cell_flag rfl _ _ w.heap.size 24 _ _ _ rfl rfl (store4_blk ZV.out) Try.underlying24 rfl (by kernel_rfl)
          · have o1 := own_of_row (U1.out.kept (Below.grown_ BV.out) (by simp [Value.ownBlock])) (by simp [HT1.out, rdTo])
            have o2 := own_of_row (U2.out.kept (Below.grown_ BV.out) (by simp [Value.ownBlock])) (by simp [HT2.out, rdTo])
            refine RingOut.lower (store4_out ⟨_, _, _, _, _, _, rfl, o1, o2, ?_, by omega, by omega, by omega, hcp1, hcp2⟩ K0.out.lt) B0.out.size
            rintro p ⟨q, off, j, e, _, rfl⟩ ⟨q', off', j', e', _, ep⟩
            have e1 : g1 = q := by simpa using congrArg (fun x => x.map Addr.block) e
            have e2 : g2 = q' := by simpa using congrArg (fun x => x.map Addr.block) e'
            have e3 : q = q' := by injection ep
            exact n12 (e1.trans (e3.trans e2.symm))
          · exact store4_below ((B0.out.trans ((BW.out.trans BU.out).mono B0.out.size)).trans (BV.out.mono (Nat.le_trans (Nat.le_trans B0.out.size BW.out.size) (Nat.le_trans (Nat.le_refl _) (BU.out.size))))) (Nat.le_refl _)
        · have HX := Lib.hid htx
          have t2 := str_false htx
          clear htx
          go_wp2_with (go_at_call 49; refine (format_any k O _ _ (k * k) cap1 (k * k) cap2 T1 T2 _ I1.out I2.out (by omega) (by omega) hcp1 hcp2).mono ?_; rintro e7 w7 ⟨rfl, hb7⟩)
          have BV := Lib.hid hb7
          clear hb7
          go_roundg (17 - (k + 1))
          case measure => omega
          case rel => exact ⟨k + 1, by omega, by omega, by omega, by go_num, no_step HN.out fun o X Y h => HX.out (by
            obtain ⟨h1, h2, h3⟩ := text_reads h i9
            rw [HO.out, HT1.out, HT2.out, ← h1, ← h2, ← h3]
            exact h.2), (BW.out.trans BU.out).trans (BV.out.mono (Nat.le_trans BW.out.size BU.out.size))⟩
      · have HS := Lib.hid hsz
        have t1 : ((s.size : Int) == 1 + 2 * ((k : Int) * ((k : Int) + 1))) = false := by rw [beq_eq_false_iff_ne, q2]; omega
        clear q2 hsz
        go_wp2
        go_roundg (17 - (k + 1))
        case measure => omega
        case rel => exact ⟨k + 1, by omega, by omega, by omega, by go_num, no_step HN.out fun o X Y h => HS.out (text_size h), BW.out⟩
    · have hk17 : k = 17 := by omega
      subst hk17
      have d0 := ZK.out.cell 0
      have d1 := ZK.out.cell 1
      have d2 := ZK.out.cell 2
      have d3 := ZK.out.cell 3
      have f0 := ZK.out.frozen 0
      have f1 := ZK.out.frozen 1
      have f2 := ZK.out.frozen 2
      have f3 := ZK.out.frozen 3
      simp at d0 d1 d2 d3
      go_wp2
      refine bodyPost_ret (v := .tuple #[.agg #[.int .i64 0, .int .i64 0, .slice none 0 0, .slice none 0 0], .bool false]) ?_ rfl ⟨_, 0, 0, [], [], false, rfl, .inr ⟨rfl, no_all HN.out, rfl, rfl, rfl, rfl⟩, RingOut.zero, store4_below (B0.out.trans (BW.out.mono B0.out.size)) (Nat.le_refl _)⟩
      exact results_cell_flag rfl _ _ w.heap.size 24 _ _ _ rfl rfl (store4_blk ZK.out) Try.underlying24 rfl (by kernel_rfl)

end Go.Proofs.Ytplligjoegjngaa
