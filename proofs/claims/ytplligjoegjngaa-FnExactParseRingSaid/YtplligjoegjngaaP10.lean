/- The reading side's ParseRing. -/
import Derived.Test.YtplligjoegjngaaP9
namespace Go.Proofs.Ytplligjoegjngaa
open Go.RowKit
set_option maxRecDepth 100000

theorem slash_size {s : ByteArray} (hs : s.size ≤ 1048576) : (s ++ ⟨#[47]⟩).size ≤ 9223372036854775807 := by
  have h1 : (⟨#[47]⟩ : ByteArray).size = 1 := rfl
  rw [ByteArray.size_append, h1]
  omega
theorem slash_any {s : ByteArray} {F : Int} (hF : F = Lib.indexByte (s.data.toList ++ [47]) 47) (hs : s.size ≤ 1048576) (w : World) :
    Calls Try.prog 105 #[.string (s ++ ⟨#[47]⟩), .int .u8 47] w fun e w' => e = .returned (.int .i64 F) ∧ Below w.heap.size w w' := by
  have h := l13Find_any (s ++ ⟨#[47]⟩) 47 w (slash_size hs)
  refine h.mono fun e w' ⟨h1, h2⟩ => ⟨?_, h2 ▸ Below.refl _ _⟩
  rw [h1, hF]
  congr 2
theorem sdigit_any {c : UInt8} {O : Int} (hO : O = digI c) (w : World) :
    Calls Try.prog 106 #[.int .u8 (c.toNat : Int)] w fun e w' => e = .returned (.int .i64 O) ∧ Below w.heap.size w w' :=
  (l1Digit_any c w).mono fun e w' ⟨h1, h2⟩ => ⟨by rw [h1, hO], h2 ▸ Below.refl _ _⟩
theorem slash_nonneg (l : List UInt8) : 0 ≤ Lib.indexByte (l ++ [47]) 47 := by
  induction l with
  | nil => decide
  | cons x l ih =>
    simp only [List.cons_append, Lib.indexByte]
    split
    · omega
    · split
      · rename_i h
        rw [beq_iff_eq] at h
        omega
      · omega

theorem cutF_size {s : ByteArray} {c : UInt8} : ∀ n pre f k, (∀ x ∈ pre, x.size ≤ s.size) → ∀ x ∈ cutF s c n pre f k, x.size ≤ s.size
  | 0, pre, f, k, h, x, hx => by
    simp only [cutF, List.mem_append, List.mem_singleton] at hx
    rcases hx with hx | rfl
    · exact h x hx
    · rw [size_extract]; omega
  | n + 1, pre, f, k, h, x, hx => by
    unfold cutF at hx
    split at hx
    · refine cutF_size n _ _ _ (fun y hy => ?_) x hx
      rw [List.mem_append, List.mem_singleton] at hy
      rcases hy with hy | rfl
      · exact h y hy
      · rw [size_extract]; omega
    · exact cutF_size n _ _ _ h x hx
theorem cut_size {s x : ByteArray} {c : UInt8} {L : List ByteArray} (h : L = cutL s c) (hs : s.size ≤ 1048576) (hx : x ∈ L) : x.size ≤ 1048576 := by
  subst h
  exact Nat.le_trans (cutF_size _ _ _ _ (by simp) x hx) hs
theorem cut_size_b {s a b c : ByteArray} (h : [a, b, c] = cutL s 32) (hs : s.size ≤ 1048576) : b.size ≤ 1048576 := cut_size h hs (by simp)
theorem cut_size_c {s a b c : ByteArray} (h : [a, b, c] = cutL s 32) (hs : s.size ≤ 1048576) : c.size ≤ 1048576 := cut_size h hs (by simp)

def tblPhi (D L : Nat) (T : List Int) (v : Value) (w : World) : Prop := ∃ A cap, v = .slice A L cap ∧ L ≤ cap ∧ cap ≤ 9223372036854775807 ∧ w.ownsRow D 3 1 (.slice A L cap) L (intsV T)
theorem tblPhi_stable {D L : Nat} {T : List Int} {v : Value} {w w' : World} (h : tblPhi D L T v w) (hb : Below w.heap.size w w') : tblPhi D L T v w' := by
  obtain ⟨A, cap, h1, h2, h3, h4⟩ := h
  exact ⟨A, cap, h1, h2, h3, h4.kept (Below.grown_ hb) (by cases A <;> simp [Value.ownBlock])⟩
def tab2Phi (p q r D L M : Nat) (T U : List Int) (i : Nat) (v : Value) (w : World) : Prop := (i = p → tblPhi D L T v w) ∧ (i = q → tblPhi D M U v w) ∧ (i = r → boxPhi D v w)
theorem tab2Phi_stable {p q r D L M : Nat} {T U : List Int} (i : Nat) (v : Value) (w w' : World) (h : tab2Phi p q r D L M T U i v w) (hb : Below w.heap.size w w') : tab2Phi p q r D L M T U i v w' :=
  ⟨fun e => tblPhi_stable (h.1 e) hb, fun e => tblPhi_stable (h.2.1 e) hb, fun e => boxPhi_stable (h.2.2 e) hb⟩
def tab2Sh (p q r L M : Nat) (i : Nat) (v : Value) : Prop := (i = p → ∃ A cap, v = .slice A L cap) ∧ (i = q → ∃ A cap, v = .slice A M cap) ∧ (i = r → ∃ g, v = .pointer (some ⟨g, 0, none⟩))
theorem tab2Sh_of {p q r D L M : Nat} {T U : List Int} (i : Nat) (v : Value) (w : World) (h : tab2Phi p q r D L M T U i v w) : tab2Sh p q r L M i v :=
  ⟨fun e => by obtain ⟨g, cap, h1, _⟩ := h.1 e; exact ⟨g, cap, h1⟩, fun e => by obtain ⟨g, cap, h1, _⟩ := h.2.1 e; exact ⟨g, cap, h1⟩, fun e => by obtain ⟨g, h1, _⟩ := h.2.2 e; exact ⟨g, h1⟩⟩
theorem tab2Sh_zero {p q r L M : Nat} (h1 : p ≠ r) (h2 : q ≠ r) (h3 : p ≠ q) (i : Nat) : tab2Sh p q r L M i (if i = r then .pointer (some ⟨0, 0, none⟩) else if i = p then .slice none L L else .slice none M M) :=
  ⟨fun e => ⟨none, L, by rw [if_neg (by omega), if_pos e]⟩, fun e => ⟨none, M, by rw [if_neg (by omega), if_neg (by omega)]⟩, fun e => ⟨0, by rw [if_pos e]⟩⟩

theorem own_apart {w : World} {D L M : Nat} {A B : Option Addr} {ca cb : Nat} {T U : List Value} (h : w.ownsRow D 3 1 (.slice A L ca) L T) (h2 : w.ownsRow D 3 1 (.slice B M cb) M U) (hn : ∀ b, blockOf (.slice A L ca) = some b → blockOf (.slice B M cb) ≠ some b) : Apart A L B M := by
  rintro p ⟨g, off, j, rfl, _, rfl⟩ ⟨g', off', j', rfl, _, e⟩
  refine hn g rfl ?_
  have : g = g' := by injection e
  rw [this]; rfl
theorem own_of_tbl {w : World} {D L : Nat} {A : Option Addr} {cap : Nat} {T : List Int} (h : w.ownsRow D 3 1 (.slice A L cap) L (intsV T)) (hl : T.length = L) : Own w D A L T := by
  rcases h.2 with ⟨hv, h0⟩ | ⟨g, c, cur, hv, _⟩
  · injection hv with h1 h2 h3
    subst h1
    subst h2
    obtain rfl := List.eq_nil_of_length_eq_zero hl
    exact Own.nil
  · injection hv with h1 h2 h3
    subst h1
    exact own_of_row h hl

theorem text_lens {s : ByteArray} {n o : Int} {X Y : List Int} (h : IsText s n o X Y) : X.length ≤ 256 ∧ Y.length ≤ 256 := by
  obtain ⟨m, e, _, _, t⟩ := text_data h
  have h2 : m * m ≤ 16 * 16 := Nat.mul_le_mul t.hm' t.hm'
  rw [t.xl, t.yl]
  omega

set_option maxHeartbeats 4000000 in
theorem sparse_any (s : ByteArray) (w : World) (hs : s.size ≤ 1048576) :
    Calls Try.prog 44 #[.string s] w fun e' w' => ∃ (v : Value) (n o : Int) (X Y : List Int) (ok : Bool), e' = .returned (.tuple #[v, .bool ok]) ∧
      ParseIs s ok n o X Y ∧ RingOut w.heap.size w' v n o X Y ∧ Below w.heap.size w w' := by
  obtain ⟨L, hL⟩ : ∃ L, L = cutL s 32 := ⟨_, rfl⟩
  have HL := Lib.hid hL
  clear hL
  have B0 := Lib.hid (show Below w.heap.size w (w.alloc (.cells #[.int .i64 0, .int .i64 0, .slice none 0 0, .slice none 0 0] 24)) from (Below.refl _ _).alloc (Nat.le_refl _) _)
  have K0 := Lib.hid (Blk.new w 24 #[.int .i64 0, .int .i64 0, .slice none 0 0, .slice none 0 0])
  by_cases h3 : L.length = 3
  · obtain ⟨a, b, c, rfl⟩ : ∃ a b c, L = [a, b, c] := by
      match L, h3 with
      | [a, b, c], _ => exact ⟨a, b, c, rfl⟩
    have t1 : ((([a, b, c].length : Nat) : Int) != 3) = false := rfl
    have hs0 : 0 < s.size := by
      rcases Nat.eq_zero_or_pos s.size with h | h
      · exfalso
        have e := HL.out
        unfold cutL at e
        rw [h] at e
        simp [cutF] at e
      · exact h
    have SB := Lib.hid (cut_size_b HL.out hs)
    have SC := Lib.hid (cut_size_c HL.out hs)
    by_cases ha : a.size = 1
    · have t2 : ((a.size : Int) != 1) = false := by rw [ha]; rfl
      have ha0 : 0 < a.size := by omega
      have HA := Lib.hid ha
      clear ha
      go_enter Try.func44, Try.ntmps44
      go_upto_region 4 with (go_at_call 99; refine (l13Cut_any s 32 _ hs).mono ?_; rintro e1 w1 ⟨g, cap, rfl, ow, hb1⟩; rw [← HL.out] at ow ⊢; have Z1 := Lib.hid (K0.out.below hb1 K0.out.lt); have B1 := Lib.hid (B0.out.trans (hb1.mono B0.out.size)); have r0 := ow.cellAt 0 (by simp); have r1 := ow.cellAt 1 (by simp); have r2 := ow.cellAt 2 (by simp); have d0 := Z1.out.cell 0; have d1 := Z1.out.cell 1; have d2 := Z1.out.cell 2; have d3 := Z1.out.cell 3; have f0 := Z1.out.frozen 0; have f1 := Z1.out.frozen 1; have f2 := Z1.out.frozen 2; have f3 := Z1.out.frozen 3; simp [strsV] at d0 d1 d2 d3 r0 r1 r2; have OW := Lib.hid ow; clear ow hb1)
      have sb0 := SB.out
      have sb1 : (b.size : Int) + 1 ≤ 9223372036854775807 := by omega
      have sb2 : b.size + 1 ≤ 9223372036854775807 := by omega
      obtain ⟨F, hF⟩ : ∃ F, F = Lib.indexByte (b.data.toList ++ [47]) 47 := ⟨_, rfl⟩
      have hF0 : 0 ≤ F := by rw [hF]; exact slash_nonneg _
      obtain ⟨O, hO⟩ : ∃ O, O = digI (a[0]'ha0) := ⟨_, rfl⟩
      obtain ⟨T1, hT1⟩ : ∃ T1, T1 = tblL b.data.toList := ⟨_, rfl⟩
      obtain ⟨T2, hT2⟩ : ∃ T2, T2 = tblL c.data.toList := ⟨_, rfl⟩
      have HF := Lib.hid hF
      have HO := Lib.hid hO
      have HT1 := Lib.hid hT1
      have HT2 := Lib.hid hT2
      clear hF hO hT1 hT2
      have hw1 : w.heap.size + 1 ≤ w1.heap.size := Z1.out.lt
      refine wp_region_makers 21 (mk3 14 18 20) (tab2Phi 14 18 20 (w.heap.size + 1) T1.length T2.length T1 T2) (tab2Sh 14 18 20 T1.length T2.length) (fun i => if i = 20 then .pointer (some ⟨0, 0, none⟩) else if i = 14 then .slice none T1.length T1.length else .slice none T2.length T2.length) probe (by kernel_rfl) (by kernel_rfl) tab2Phi_stable (fun i v x _ => tab2Sh_of i v x) (fun i _ => tab2Sh_zero (by decide) (by decide) (by decide) i) ?_
      intro V hV vs hvs
      obtain ⟨A1, cap1, e1⟩ : ∃ A cap, vs 14 = .slice A T1.length cap := (hvs 14 rfl).1 rfl
      obtain ⟨A2, cap2, e2⟩ : ∃ A cap, vs 18 = .slice A T2.length cap := (hvs 18 rfl).2.1 rfl
      obtain ⟨bx, e3⟩ : ∃ g, vs 20 = .pointer (some ⟨g, 0, none⟩) := (hvs 20 rfl).2.2 rfl
      have cW : ∃ x, extC V x := ⟨V, extC_of (Below.refl _ _)⟩
      have big : ∀ x, extC V x → w.heap.size + 1 ≤ x.heap.size := fun x ⟨u, hu⟩ => by rw [hu]; exact Nat.le_trans (Nat.le_trans hw1 hV.size) (ext_size V u)
      have lg : ∀ k v, w1.cell? ⟨g, k, none⟩ = some v → V.cell? ⟨g, k, none⟩ = some v := fun k v h => (hV.cell (World.block_lt_of_cell? _ _ h)).trans h
      have p0 := lg _ _ r0
      have p1 := lg _ _ r1
      have p2 := lg _ _ r2
      simp only [List.take_succ_cons, List.take_zero, List.drop_succ_cons, List.drop_zero]
      refine wpV_quiet cW 14 0 _ _ (by decide) (by decide) ?_
      simp only [List.take_succ_cons, List.take_zero, List.drop_succ_cons, List.drop_zero]
      repeat (go_big_quiet_step (first
          | (go_at_call 105; with_reducible refine calls_ext (slash_any HF.out SB.out _))
          | (go_at_call 106; with_reducible refine calls_ext (sdigit_any HO.out _))))
      refine wpQuiet_nil ?_
      refine wpV_make' rfl rfl (fun x hx => ?_) ?_
      · unfold makesAt
        go_simp
        refine ⟨rfl, (l1Table_any _ x (Nat.le_trans SB.out (by decide))).mono ?_⟩
        rintro _ x' ⟨A, n, cap, rfl, k1, k2, _, ho, _, hb⟩
        rw [← HT1.out] at ho
        have hn : T1.length = n := by have := ho.1; simpa [intsV] using this
        subst hn
        exact ⟨_, rfl, hb, ⟨fun _ => ⟨A, cap, rfl, k1, k2, own_base ho (big x hx)⟩, fun e => absurd e (by decide), fun e => absurd e (by decide)⟩, fun b e => by
          cases A with
          | none => cases e
          | some ad => exact ho.lt b e⟩
      rw [e1]
      go_simp
      refine wpV_quiet cW 3 _ _ _ (by decide) (by decide) ?_
      simp only [List.take_succ_cons, List.take_zero, List.drop_succ_cons, List.drop_zero]
      repeat (go_big_quiet_step (fail))
      refine wpQuiet_nil ?_
      refine wpV_make' rfl rfl (fun x hx => ?_) ?_
      · unfold makesAt
        go_simp
        refine ⟨rfl, (l1Table_any _ x (Nat.le_trans SC.out (by decide))).mono ?_⟩
        rintro _ x' ⟨A, n, cap, rfl, k1, k2, _, ho, _, hb⟩
        rw [← HT2.out] at ho
        have hn : T2.length = n := by have := ho.1; simpa [intsV] using this
        subst hn
        exact ⟨_, rfl, hb, ⟨fun e => absurd e (by decide), fun _ => ⟨A, cap, rfl, k1, k2, own_base ho (big x hx)⟩, fun e => absurd e (by decide)⟩, fun b e => by
          cases A with
          | none => cases e
          | some ad => exact ho.lt b e⟩
      rw [e2]
      go_simp
      refine wpV_quiet cW 1 _ _ _ (by decide) (by decide) ?_
      simp only [List.take_succ_cons, List.take_zero, List.drop_succ_cons, List.drop_zero]
      repeat (go_big_quiet_step (fail))
      refine wpQuiet_nil ?_
      refine wpV_make' rfl rfl (fun x hx => makesAt_mono (makes_box rfl x) fun v x' ⟨g, h1, h2, h3⟩ => ⟨fun e => absurd e (by decide), fun e => absurd e (by decide), fun _ => ⟨g, h1, Nat.le_trans (big x hx) h2, h3⟩⟩) ?_
      rw [e3]
      go_simp
      refine wpV_nil ?_
      intro w2 hb2 hfacts hapart
      have n12 : ∀ b, blockOf (.slice A1 T1.length cap1) = some b → blockOf (.slice A2 T2.length cap2) ≠ some b := fun b h1 h2 => hapart 14 18 (by decide) (by decide) (by decide) rfl rfl b (by rw [e1]; exact h1) (by rw [e2]; exact h2)
      obtain ⟨k1, r1⟩ : T1.length ≤ cap1 ∧ w2.ownsRow (w.heap.size + 1) 3 1 (.slice A1 T1.length cap1) T1.length (intsV T1) := by
        obtain ⟨A, cap, h1, h2, h3, h4⟩ := (hfacts 14 (by decide) rfl).1 rfl
        rw [e1] at h1
        injection h1 with h1 _ h5
        subst h1 h5
        exact ⟨h2, h4⟩
      obtain ⟨k2, r2⟩ : T2.length ≤ cap2 ∧ w2.ownsRow (w.heap.size + 1) 3 1 (.slice A2 T2.length cap2) T2.length (intsV T2) := by
        obtain ⟨A, cap, h1, h2, h3, h4⟩ := (hfacts 18 (by decide) rfl).2.1 rfl
        rw [e2] at h1
        injection h1 with h1 _ h5
        subst h1 h5
        exact ⟨h2, h4⟩
      obtain ⟨d3, r3⟩ : w.heap.size + 1 ≤ bx ∧ Blk w2 bx 24 #[.int .i64 0, .int .i64 0, .slice none 0 0, .slice none 0 0] := by
        obtain ⟨g, h1, h2, h3⟩ := (hfacts 20 (by decide) rfl).2.2 rfl
        rw [e3] at h1
        injection h1 with h1
        injection h1 with h1
        injection h1 with h1
        subst h1
        exact ⟨h2, h3⟩
      clear hfacts hapart hvs e1 e2 e3
      have R1 := Lib.hid r1
      have R2 := Lib.hid r2
      have R3 := Lib.hid r3
      have ne1 : (Value.slice A1 T1.length cap1).ownBlock ≠ some bx := fun e => own_blk_ne r1 r3 (by decide) e.symm
      have ne2 : (Value.slice A2 T2.length cap2).ownBlock ≠ some bx := fun e => own_blk_ne r2 r3 (by decide) e.symm
      have c0 := r3.cell 0
      have c1 := r3.cell 1
      have c2 := r3.cell 2
      have c3 := r3.cell 3
      have f0 := r3.frozen 0
      have f1 := r3.frozen 1
      have f2 := r3.frozen 2
      have f3 := r3.frozen 3
      simp at c0 c1 c2 c3
      go_upto_region 5 with (fail)
      obtain ⟨U, hU⟩ : ∃ U, store4 w2 bx (.int .i64 F) (.int .i64 O) (.slice A1 T1.length cap1) (.slice A2 T2.length cap2) = U := ⟨_, rfl⟩
      have hU' := hU
      unfold store4 at hU'
      have KU := Lib.hid (show Blk U bx 24 #[.int .i64 F, .int .i64 O, .slice A1 T1.length cap1, .slice A2 T2.length cap2] by rw [← hU]; exact store4_blk R3.out)
      have BU := Lib.hid (show Below (w.heap.size + 1) w1 U by rw [← hU]; exact store4_below (hb2.mono hw1) d3)
      have U1 := Lib.hid (show U.ownsRow (w.heap.size + 1) 3 1 (.slice A1 T1.length cap1) T1.length (intsV T1) by rw [← hU]; exact store4_own R1.out ne1)
      have U2 := Lib.hid (show U.ownsRow (w.heap.size + 1) 3 1 (.slice A2 T2.length cap2) T2.length (intsV T2) by rw [← hU]; exact store4_own R2.out ne2)
      rw [show max F 0 = F from Int.max_eq_left hF0, hU']
      clear hU hU' c0 c1 c2 c3 f0 f1 f2 f3 r1 r2 r3 hb2 cW big lg p0 p1 p2 d0 d1 d2
      have ZE := Lib.hid (Z1.out.below BU.out (Nat.lt_succ_self _))
      have O1 := Lib.hid (own_of_tbl U1.out rfl)
      have O2 := Lib.hid (own_of_tbl U2.out rfl)
      have I1 := Lib.hid O1.out.ints
      have I2 := Lib.hid O2.out.ints
      have zl1 : T1.length ≤ 1048576 := by
        rw [HT1.out]
        exact Nat.le_trans (tblL_len _) (by simpa using SB.out)
      have zl2 : T2.length ≤ 1048576 := by
        rw [HT2.out]
        exact Nat.le_trans (tblL_len _) (by simpa using SC.out)
      have q1 : T1.length ≤ 9223372036854775807 := by omega
      have q2 : T2.length ≤ 9223372036854775807 := by omega
      have c0 := KU.out.cell 0
      have c1 := KU.out.cell 1
      have c2 := KU.out.cell 2
      have c3 := KU.out.cell 3
      simp at c0 c1 c2 c3
      by_cases htx : fmtV F O T1 T2 = s
      · have HX := Lib.hid htx
        have hv := text_valid htx hs0
        obtain ⟨l1, l2⟩ := text_lens hv
        have HV := Lib.hid hv
        clear hv
        have t3 := str_true htx
        clear htx
        go_wp2_with (go_at_call 65; refine (sformat_any F O A1 A2 T1.length cap1 T2.length cap2 T1 T2 _ I1.out I2.out q1 q2 k1 k2).mono ?_; rintro e7 w7 ⟨rfl, hb7⟩; have KV := Lib.hid (KU.out.below hb7 KU.out.lt); have ZV := Lib.hid (ZE.out.below hb7 ZE.out.lt); have BV := Lib.hid hb7; have c0 := KV.out.cell 0; have c1 := KV.out.cell 1; have c2 := KV.out.cell 2; have c3 := KV.out.cell 3; have d0 := ZV.out.cell 0; have d1 := ZV.out.cell 1; have d2 := ZV.out.cell 2; have d3 := ZV.out.cell 3; have f0 := ZV.out.frozen 0; have f1 := ZV.out.frozen 1; have f2 := ZV.out.frozen 2; have f3 := ZV.out.frozen 3; simp at c0 c1 c2 c3 d0 d1 d2 d3; clear hb7)
        refine bodyPost_ret (v := .tuple #[.agg #[.int .i64 F, .int .i64 O, .slice A1 T1.length cap1, .slice A2 T2.length cap2], .bool true]) ?_ rfl ⟨_, F, O, T1, T2, true, rfl, .inl ⟨rfl, HV.out⟩, ?_, ?_⟩
        · exact results_cell_flag rfl _ _ w.heap.size 24 _ _ _ rfl rfl (store4_blk ZV.out) Try.underlying24 rfl (by kernel_rfl)
        · exact RingOut.lower (store4_out ⟨_, _, _, _, _, _, rfl, O1.out.next BV.out, O2.out.next BV.out, own_apart U1.out U2.out n12, by omega, by omega, by omega, k1, k2⟩ (Nat.lt_succ_self _)) (Nat.le_succ _)
        · exact store4_below ((B1.out.trans (BU.out.mono (Nat.le_succ _))).trans (BV.out.mono (Nat.le_trans (Nat.le_trans (Nat.le_succ _) hw1) BU.out.size))) (Nat.le_refl _)
      · have HX := Lib.hid htx
        have t3 := str_false htx
        clear htx
        go_wp2_with (go_at_call 65; refine (sformat_any F O A1 A2 T1.length cap1 T2.length cap2 T1 T2 _ I1.out I2.out q1 q2 k1 k2).mono ?_; rintro e7 w7 ⟨rfl, hb7⟩; have KV := Lib.hid (KU.out.below hb7 KU.out.lt); have ZV := Lib.hid (ZE.out.below hb7 ZE.out.lt); have BV := Lib.hid hb7; have c0 := KV.out.cell 0; have c1 := KV.out.cell 1; have c2 := KV.out.cell 2; have c3 := KV.out.cell 3; have d0 := ZV.out.cell 0; have d1 := ZV.out.cell 1; have d2 := ZV.out.cell 2; have d3 := ZV.out.cell 3; have f0 := ZV.out.frozen 0; have f1 := ZV.out.frozen 1; have f2 := ZV.out.frozen 2; have f3 := ZV.out.frozen 3; simp at c0 c1 c2 c3 d0 d1 d2 d3; clear hb7)
        refine bodyPost_ret (v := .tuple #[.agg #[.int .i64 0, .int .i64 0, .slice none 0 0, .slice none 0 0], .bool false]) ?_ rfl ⟨_, 0, 0, [], [], false, rfl, .inr ⟨rfl, fun n o X Y h => ?_, rfl, rfl, rfl, rfl⟩, RingOut.zero, store4_below ((B1.out.trans (BU.out.mono (Nat.le_succ _))).trans (BV.out.mono (Nat.le_trans (Nat.le_trans (Nat.le_succ _) hw1) BU.out.size))) (Nat.le_refl _)⟩
        · exact results_cell_flag rfl _ _ w.heap.size 24 _ _ _ rfl rfl (store4_blk ZV.out) Try.underlying24 rfl (by kernel_rfl)
        · refine HX.out ?_
          obtain ⟨m, e, h1, h2, t⟩ := text_data h
          obtain ⟨a', b', c', hc, g1, g2, g3⟩ := t.cut
          have e := HL.out.trans hc
          simp only [List.cons.injEq, and_true] at e
          obtain ⟨rfl, rfl, rfl⟩ := e
          obtain ⟨_, y1, y2, y3, y4⟩ := t.pieces g1 g2 g3
          rw [HF.out, HO.out, HT1.out, HT2.out, y1, y3, y4]
          rw [List.getD_eq_getElem?_getD, List.getElem?_eq_getElem (by simpa using ha0)] at y2
          have y5 : digI a[0] = o := by rw [h2]; exact y2
          rw [y5, ← h1]
          exact h.2
    · have t2 : ((a.size : Int) != 1) = true := by rw [bne_iff_ne]; omega
      have HA := Lib.hid ha
      clear ha
      go_enter Try.func44, Try.ntmps44
      go_wp2_with (go_at_call 99; refine (l13Cut_any s 32 _ hs).mono ?_; rintro e1 w1 ⟨g, cap, rfl, ow, hb1⟩; rw [← HL.out] at ow ⊢; have Z1 := Lib.hid (K0.out.below hb1 K0.out.lt); have B1 := Lib.hid (B0.out.trans (hb1.mono B0.out.size)); have r0 := ow.cellAt 0 (by simp); have r1 := ow.cellAt 1 (by simp); have r2 := ow.cellAt 2 (by simp); have d0 := Z1.out.cell 0; have d1 := Z1.out.cell 1; have d2 := Z1.out.cell 2; have d3 := Z1.out.cell 3; have f0 := Z1.out.frozen 0; have f1 := Z1.out.frozen 1; have f2 := Z1.out.frozen 2; have f3 := Z1.out.frozen 3; simp [strsV] at d0 d1 d2 d3 r0 r1 r2; have OW := Lib.hid ow; clear ow hb1)
      refine bodyPost_ret (v := .tuple #[.agg #[.int .i64 0, .int .i64 0, .slice none 0 0, .slice none 0 0], .bool false]) ?_ rfl ⟨_, 0, 0, [], [], false, rfl, .inr ⟨rfl, fun n o X Y h => ?_, rfl, rfl, rfl, rfl⟩, RingOut.zero, store4_below B1.out (Nat.le_refl _)⟩
      · exact results_cell_flag rfl _ _ w.heap.size 24 _ _ _ rfl rfl (store4_blk Z1.out) Try.underlying24 rfl (by kernel_rfl)
      · obtain ⟨m, e, _, _, t⟩ := text_data h
        obtain ⟨a', b', c', hc, h1, h2, h3⟩ := t.cut
        have e := HL.out.trans hc
        simp only [List.cons.injEq, and_true] at e
        obtain ⟨rfl, rfl, rfl⟩ := e
        exact HA.out (t.pieces h1 h2 h3).1
  · have t1 : ((L.length : Int) != 3) = true := by rw [bne_iff_ne]; omega
    have H3 := Lib.hid h3
    clear h3
    go_enter Try.func44, Try.ntmps44
    go_wp2_with (go_at_call 99; refine (l13Cut_any s 32 _ hs).mono ?_; rintro e1 w1 ⟨g, cap, rfl, ow, hb1⟩; rw [← HL.out]; have Z1 := Lib.hid (K0.out.below hb1 K0.out.lt); have B1 := Lib.hid (B0.out.trans (hb1.mono B0.out.size)); have d0 := Z1.out.cell 0; have d1 := Z1.out.cell 1; have d2 := Z1.out.cell 2; have d3 := Z1.out.cell 3; have f0 := Z1.out.frozen 0; have f1 := Z1.out.frozen 1; have f2 := Z1.out.frozen 2; have f3 := Z1.out.frozen 3; simp at d0 d1 d2 d3; clear ow hb1)
    refine bodyPost_ret (v := .tuple #[.agg #[.int .i64 0, .int .i64 0, .slice none 0 0, .slice none 0 0], .bool false]) ?_ rfl ⟨_, 0, 0, [], [], false, rfl, .inr ⟨rfl, fun n o X Y h => ?_, rfl, rfl, rfl, rfl⟩, RingOut.zero, store4_below B1.out (Nat.le_refl _)⟩
    · exact results_cell_flag rfl _ _ w.heap.size 24 _ _ _ rfl rfl (store4_blk Z1.out) Try.underlying24 rfl (by kernel_rfl)
    · obtain ⟨m, e, _, _, t⟩ := text_data h
      obtain ⟨a, b, c, hc, _⟩ := t.cut
      exact H3.out (by rw [HL.out, hc]; rfl)

end Go.Proofs.Ytplligjoegjngaa
