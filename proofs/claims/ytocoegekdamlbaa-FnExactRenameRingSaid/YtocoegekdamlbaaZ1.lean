
/- The program's maker of rings, at a renaming. -/
import Derived.Test.YtocoegekdamlbaaG4
namespace Go.Proofs.Ytocoegekdamlbaa
open Go.RowKit
set_option maxRecDepth 100000

theorem rn_size (mv : Value) (w : World) : (method 212 59 mv "loop.example/finiterings/impl.size").run Try.prog w = .ok (131, mv) w := by kernel_rfl
theorem rn_one (mv : Value) (w : World) : (method 212 59 mv "loop.example/finiterings/impl.one").run Try.prog w = .ok (129, mv) w := by kernel_rfl
theorem rn_element (mv : Value) (w : World) : (method 212 59 mv "loop.example/finiterings/impl.element").run Try.prog w = .ok (127, mv) w := by kernel_rfl
theorem rn_number (mv : Value) (w : World) : (method 212 59 mv "loop.example/finiterings/impl.number").run Try.prog w = .ok (128, mv) w := by kernel_rfl
theorem rn_sum (mv : Value) (w : World) : (method 212 59 mv "loop.example/finiterings/impl.sum").run Try.prog w = .ok (132, mv) w := by kernel_rfl
theorem rn_product (mv : Value) (w : World) : (method 212 59 mv "loop.example/finiterings/impl.product").run Try.prog w = .ok (130, mv) w := by kernel_rfl
theorem rn_ahead (mv : Value) (w : World) : (nilAhead 212 59 mv "loop.example/finiterings/impl.number").run Try.prog w = .ok (some false) w := by kernel_rfl

set_option maxHeartbeats 8000000 in
theorem madeRn_any (mv : Value) (m o : Nat) (El : Nat → Value) (SV PV : Nat → Nat → Value) (S P : Nat → Nat → Nat) (oneV : Value) (hm : 1 ≤ m) (hm' : m ≤ 16) (w : World)
    (hM : Making w mv 131 129 127 128 132 130 m o El SV PV S P oneV) :
    Calls Try.prog 61 #[.iface 59 mv] w fun e w' => ∃ v, e = .returned v ∧ NewRing w.heap.size w' v m o (m * m) (tabZ m S (m * m)) (tabZ m P (m * m)) ∧ Below w.heap.size w w' := by
  obtain ⟨i0, hi, hz0, hz1, hz2⟩ := info_parts int_info
  obtain ⟨s1, s2, s3, s4⟩ := sqI hm'
  have S3 := Lib.hid s3
  have MK := Lib.hid hM
  clear s3 hM
  have hmm : m * m ≤ 256 := s4
  have q1 := rn_size mv
  have q2 := rn_one mv
  have q3 := rn_element mv
  have q4 := rn_number mv
  have q5 := rn_sum mv
  have q6 := rn_product mv
  have q7 := rn_ahead mv
  have b0 : Below w.heap.size w (w.alloc (.cells #[.int .i64 0, .int .i64 0, .slice none 0 0, .slice none 0 0] 28)) := (Below.refl _ _).alloc (Nat.le_refl _) _
  have k0 := Blk.new w 28 #[.int .i64 0, .int .i64 0, .slice none 0 0, .slice none 0 0]
  have K0 := Lib.hid k0
  have B0 := Lib.hid b0
  clear k0 b0
  go_enter Try.func61, Try.ntmps61
  go_wp2_with (go_at_call 131; refine (MK.out.size _ B0.out).mono ?_; rintro e1 w1 ⟨rfl, hb1⟩)
  have K1 := Lib.hid (K0.out.below hb1 K0.out.lt)
  have B1 := Lib.hid (B0.out.trans (hb1.mono (by simp)))
  have hs1 := hb1.size
  clear hb1
  have hmz : IntKind.i64.wrap ((m : Int) * m) = (m : Int) * m := IntWalk.i64_in _ (by omega)
  refine wp_region_makers 18 madeMk (madePhi (w.heap.size + 1) m) (madeSh m) (fun i => if i = 17 then .pointer (some ⟨0, 0, none⟩) else .slice (some ⟨0, 0, none⟩) 0 (m * m)) probe (by kernel_rfl) (by kernel_rfl) madePhi_stable (fun i v x _ => madeSh_of i v x)
    (fun i _ => by unfold madeSh; split <;> simp) ?_
  intro W hW vs hvs
  obtain ⟨g1, e1⟩ : ∃ g, vs 11 = .slice (some ⟨g, 0, none⟩) 0 (m * m) := hvs 11 rfl
  obtain ⟨g2, e2⟩ : ∃ g, vs 15 = .slice (some ⟨g, 0, none⟩) 0 (m * m) := hvs 15 rfl
  obtain ⟨bx, e3⟩ : ∃ g, vs 17 = .pointer (some ⟨g, 0, none⟩) := hvs 17 rfl
  have BW := Lib.hid (B1.out.trans (hW.mono B1.out.size))
  have cW : ∃ x, extC W x := ⟨W, extC_of (Below.refl _ _)⟩
  have big : ∀ x, extC W x → w.heap.size + 1 ≤ x.heap.size := fun x ⟨u, hu⟩ => by rw [hu]; exact Nat.le_trans (Nat.le_trans K1.out.lt hW.size) (ext_size W u)
  simp only [List.take_succ_cons, List.take_zero, List.drop_succ_cons, List.drop_zero]
  refine wpV_quiet cW 11 0 _ _ (by decide) (by decide) ?_
  simp only [List.take_succ_cons, List.take_zero, List.drop_succ_cons, List.drop_zero]
  repeat (go_big_quiet_step (first
      | (go_at_call 129; with_reducible refine calls_ext (MK.out.one _ ?_); exact BW.out.trans ((ext_below _ _).mono BW.out.size))
      | (go_at_call 128; with_reducible refine calls_ext (MK.out.oneNum _ ?_); exact BW.out.trans ((ext_below _ _).mono BW.out.size))))
  refine wpQuiet_nil ?_
  refine wpV_make' rfl rfl (fun x hx => makesAt_mono (makes_row _ _ 0 (m * m) _ _ rfl rfl (by rw [← S3.out]; rfl) (Nat.zero_le _) (by omega) x) fun v x' ⟨g, h1, h2, h3⟩ => ⟨g, h1, Nat.le_trans (big x hx) h2, h3⟩) ?_
  rw [e1]
  go_simp
  refine wpV_quiet cW 3 _ _ _ (by decide) (by decide) ?_
  simp only [List.take_succ_cons, List.take_zero, List.drop_succ_cons, List.drop_zero]
  repeat (go_big_quiet_step (fail))
  refine wpQuiet_nil ?_
  refine wpV_make' rfl rfl (fun x hx => makesAt_mono (makes_row _ _ 0 (m * m) _ _ rfl rfl (by rw [← S3.out]; rfl) (Nat.zero_le _) (by omega) x) fun v x' ⟨g, h1, h2, h3⟩ => ⟨g, h1, Nat.le_trans (big x hx) h2, h3⟩) ?_
  rw [e2]
  go_simp
  refine wpV_quiet cW 1 _ _ _ (by decide) (by decide) ?_
  simp only [List.take_succ_cons, List.take_zero, List.drop_succ_cons, List.drop_zero]
  repeat (go_big_quiet_step (fail))
  refine wpQuiet_nil ?_
  refine wpV_make' rfl rfl (fun x hx => makesAt_mono (makes_box rfl x) fun v x' ⟨g, h1, h2, h3⟩ => ⟨g, h1, Nat.le_trans (big x hx) h2, h3⟩) ?_
  rw [e3]
  go_simp
  refine wpV_nil ?_
  intro w2 hb2 hfacts hapart
  have n12 : g1 ≠ g2 := fun e => hapart 11 15 (by omega) (by omega) (by omega) rfl rfl g1 (by rw [e1]; rfl) (by rw [e2, e]; rfl)
  obtain ⟨d1, r1⟩ : w.heap.size + 1 ≤ g1 ∧ Blk w2 g1 3 (madeCells #[.int .i64 0] (m * m)) := by
    obtain ⟨g, h1, h2, h3⟩ := hfacts 11 (by omega) rfl
    rw [e1] at h1
    simp at h1
    subst h1
    exact ⟨h2, h3⟩
  obtain ⟨d2, r2⟩ : w.heap.size + 1 ≤ g2 ∧ Blk w2 g2 3 (madeCells #[.int .i64 0] (m * m)) := by
    obtain ⟨g, h1, h2, h3⟩ := hfacts 15 (by omega) rfl
    rw [e2] at h1
    simp at h1
    subst h1
    exact ⟨h2, h3⟩
  obtain ⟨d3, r3⟩ : w.heap.size + 1 ≤ bx ∧ Blk w2 bx 28 #[.int .i64 0, .int .i64 0, .slice none 0 0, .slice none 0 0] := by
    obtain ⟨g, h1, h2, h3⟩ := hfacts 17 (by omega) rfl
    rw [e3] at h1
    simp at h1
    subst h1
    exact ⟨h2, h3⟩
  clear hfacts hapart hvs e1 e2 e3
  have nb1 : g1 ≠ bx := blk_ne (t := 3) (t' := 28) r1 r3 (by decide)
  have nb2 : g2 ≠ bx := blk_ne (t := 3) (t' := 28) r2 r3 (by decide)
  have c0 := r3.cell 0
  have c1 := r3.cell 1
  have c2 := r3.cell 2
  have c3 := r3.cell 3
  have f0 := r3.frozen 0
  have f1 := r3.frozen 1
  have f2 := r3.frozen 2
  have f3 := r3.frozen 3
  simp at c0 c1 c2 c3
  go_wp2_with (fail)
  obtain ⟨V, hV⟩ : ∃ V, store4 w2 bx (.int .i64 m) (.int .i64 o) (.slice (some ⟨g1, 0, none⟩) 0 (m * m)) (.slice (some ⟨g2, 0, none⟩) 0 (m * m)) = V := ⟨_, rfl⟩
  have hV' := hV
  unfold store4 at hV'
  have gv : Grow (w.heap.size + 1) V bx m o (.slice (some ⟨g1, 0, none⟩) 0 (m * m)) (.slice (some ⟨g2, 0, none⟩) 0 (m * m)) 0 0 [] [] := by
    subst hV
    exact ⟨store4_blk r3, d3, store4_own (own_of_blk r1 d1 (by omega)) (by simpa [Value.ownBlock] using nb1), store4_own (own_of_blk r2 d2 (by omega)) (by simpa [Value.ownBlock] using nb2), by simpa [Value.ownBlock] using nb1, by simpa [Value.ownBlock] using nb2, by
      intro g h1 h2
      simp [Value.ownBlock] at h1 h2
      omega⟩
  have bv : Below w1.heap.size w1 w2 := hb2
  have bV : Below (w.heap.size + 1) w1 V := by subst hV; exact store4_below (bv.mono K1.out.lt) d3
  rw [hV']
  clear hV hV' c0 c1 c2 c3 f0 f1 f2 f3 r1 r2 r3 hb2 bv BW cW big hW
  have GV := Lib.hid gv
  have BV := Lib.hid bV
  clear gv bV
  go_loopw [29] (fun i wr => ∃ (a : Nat) (v2 v3 : Value), a ≤ m ∧ i = .int .i64 a ∧ Grow (w.heap.size + 1) wr bx m o v2 v3 (a * m) (a * m) (tabZ m S (a * m)) (tabZ m P (a * m)) ∧ Below (w.heap.size + 1) V wr) (fun i _ => m - (intOf i).toNat)
  case atStart => exact ⟨0, _, _, Nat.zero_le _, rfl, by simpa [tabZ] using GV.out, Below.refl _ _⟩
  case round =>
    obtain ⟨a, v2, v3, ha, rfl, hg, hb⟩ := hrel
    have GR := Lib.hid hg
    have BR := Lib.hid hb
    clear hg hb
    by_cases hlt : a < m
    · have hBw : Below w.heap.size w wr := B1.out.trans ((BV.out.trans BR.out).mono (by omega))
      go_wp2_with (go_at_call 127; refine (MK.out.element _ hBw a hlt).mono ?_; rintro e3 w3 ⟨rfl, hb3⟩)
      have G3 := Lib.hid (GR.out.keep hb3)
      have B3 := Lib.hid (BR.out.trans (hb3.mono (Nat.le_of_lt (Nat.lt_of_le_of_lt GR.out.hD GR.out.box.lt))))
      clear hb3 hBw
      go_loopw [36] (fun i wr => ∃ (b : Nat) (v2 v3 : Value), b ≤ m ∧ i = .int .i64 b ∧ Grow (w.heap.size + 1) wr bx m o v2 v3 (a * m + b) (a * m + b) (tabZ m S (a * m + b)) (tabZ m P (a * m + b)) ∧ Below (w.heap.size + 1) V wr) (fun i _ => m - (intOf i).toNat)
      case atStart => exact ⟨0, _, _, Nat.zero_le _, rfl, G3.out, B3.out⟩
      case round =>
        obtain ⟨b, v2, v3, hb, rfl, hg, hbl⟩ := hrel
        have GR := Lib.hid hg
        have BR := Lib.hid hbl
        clear hg hbl
        by_cases hlt2 : b < m
        · have hBw : Below w.heap.size w wr := B1.out.trans ((BV.out.trans BR.out).mono (by omega))
          go_wp2_with (go_at_call 127; refine (MK.out.element _ hBw b hlt2).mono ?_; rintro e4 wd ⟨rfl, hb4⟩)
          have gd := GR.out.keep hb4
          have bd : Below w.heap.size w wd := hBw.trans (hb4.mono hBw.size)
          have GD := Lib.hid gd
          have BD := Lib.hid bd
          have BE := Lib.hid (BR.out.trans (hb4.mono (Nat.le_of_lt (Nat.lt_of_le_of_lt GR.out.hD GR.out.box.lt))))
          have hlx : bx < wd.heap.size := gd.box.lt
          have hq0 : w.heap.size ≤ wd.heap.size := bd.size
          have hq : w.heap.size ≤ wd.heap.size := bd.size
          have hqD : w.heap.size + 1 ≤ wd.heap.size := Nat.le_of_lt (Nat.lt_of_le_of_lt gd.hD gd.box.lt)
          clear hb4 hBw gd bd
          have hk0 : a * m + b < m * m := by
            have : (a + 1) * m ≤ m * m := Nat.mul_le_mul_right _ hlt
            rw [Nat.succ_mul] at this
            omega
          have hkk : (a * m + b) + 1 ≤ maxLen := by unfold maxLen; omega
          have hbt : ((a * m + b) + 1) * 8 ≤ 140737488355328 := by omega
          have GWA := Lib.hid GD.out
          have nnA : v2.ownBlock ≠ some bx := GD.out.n2
          go_wp2_with (fail)
          refine wp_region_makers 12 (fun i => i == 11) (appPhi (w.heap.size + 1) (.int .i64 (S a b : Nat))) appSh (fun _ => .slice (some ⟨0, 0, none⟩) 1 1) probe (by kernel_rfl) (by kernel_rfl) appPhi_stable (fun i v x _ => appSh_of i v x) (fun _ _ => ⟨0, rfl⟩) ?_
          intro W1 hW1 vsA hvsA
          obtain ⟨h1A, e1A⟩ : ∃ g, vsA 11 = .slice (some ⟨g, 0, none⟩) 1 1 := hvsA 11 rfl
          have BWA := Lib.hid (BD.out.trans (hW1.mono hq))
          have cWA : ∃ x, extC W1 x := ⟨W1, extC_of (Below.refl _ _)⟩
          have bigA : ∀ x, extC W1 x → w.heap.size + 1 ≤ x.heap.size := fun x ⟨u, hu⟩ => by rw [hu]; exact Nat.le_trans (Nat.le_trans hqD hW1.size) (ext_size W1 u)
          have cA := (GD.out.keep hW1).box.cell 2
          simp at cA
          simp only [List.take_succ_cons, List.take_zero, List.drop_succ_cons, List.drop_zero]
          refine wpV_quiet cWA 11 0 _ _ (by decide) (by decide) ?_
          simp only [List.take_succ_cons, List.take_zero, List.drop_succ_cons, List.drop_zero]
          repeat (go_big_quiet_step (first
              | (go_at_call 132; with_reducible refine calls_ext (MK.out.sum _ ?_ a b hlt hlt2); exact BWA.out.trans ((ext_below _ _).mono BWA.out.size))
              | (go_at_call 128; with_reducible refine calls_ext (MK.out.sumNum _ ?_ a b hlt hlt2); exact BWA.out.trans ((ext_below _ _).mono BWA.out.size))))
          refine wpQuiet_nil ?_
          refine wpV_make' rfl rfl (fun x hx => makesAt_mono (makes_one _ _ rfl rfl x) fun v x' ⟨g, p1, p2, p3⟩ => ⟨g, p1, Nat.le_trans (bigA x hx) p2, p3⟩) ?_
          rw [e1A]
          go_simp
          refine wpV_nil ?_
          intro wm hbA hfactsA _
          obtain ⟨gA, q1A, _, r1A⟩ := hfactsA 11 (by omega) rfl
          have egA : gA = h1A := by rw [e1A] at q1A; simp at q1A; exact q1A.symm
          subst egA
          have gkA := GD.out.keep hbA
          refine wpList_append_lies _ rfl _ _ _ rfl (w.heap.size + 1) 3 i0 _ 1 8 Try.underlying22 hi hz0 hz1 hz2 rfl (by omega) v2 (a * m + b) _ rfl gkA.o2 ⟨gA, 0, none⟩ 1 1 _ rfl rfl (World.news_of_block r1A) (by simp [Value.oneCell']) (by omega) hkk hbt (Nat.le_trans hqD hbA.size) _ rfl ?_
          intro gg cap w7 hownA hgrowA hatA _
          have ffA : w7.frozen? ⟨bx, 2, none⟩ = false := by rw [hgrowA.frozen_far _ gkA.box.lt (Ne.symm nnA)]; exact gkA.box.frozen 2
          have ccA : w7.cell? ⟨bx, 2, none⟩ = some v2 := by rw [hgrowA.cell_far _ gkA.box.lt (Ne.symm nnA)]; exact gkA.box.cell 2
          obtain ⟨gpA, bpA⟩ := gkA.put2 hownA hgrowA hatA
          go_wp2_with (fail)
          have GP0 := Lib.hid gpA
          have BP0 := Lib.hid (BE.out.trans ((hbA.mono hqD).trans bpA))
          clear gpA bpA hownA hgrowA hatA ffA ccA gkA hbA hfactsA q1A r1A cA nnA GWA BWA cWA bigA hW1 hvsA
          obtain ⟨we, hwe⟩ : ∃ we, w7.setCell ⟨bx, 2, none⟩ (.slice (some ⟨gg, 0, none⟩) (a * m + b + 1) cap) = we := ⟨_, rfl⟩
          rw [hwe] at GP0 BP0 ⊢
          clear hwe
          have GP := Lib.hid GP0.out
          have BP := Lib.hid (B1.out.trans ((BV.out.trans BP0.out).mono (Nat.le_succ _)))
          have hq3 : w.heap.size ≤ we.heap.size := BP.out.size
          have hqD3 : w.heap.size + 1 ≤ we.heap.size := Nat.le_of_lt (Nat.lt_of_le_of_lt GP.out.hD GP.out.box.lt)
          have GWB := Lib.hid GP.out
          have nnB : v3.ownBlock ≠ some bx := GP.out.n3
          go_wp2_with (fail)
          refine wp_region_makers 12 (fun i => i == 11) (appPhi (w.heap.size + 1) (.int .i64 (P a b : Nat))) appSh (fun _ => .slice (some ⟨0, 0, none⟩) 1 1) probe (by kernel_rfl) (by kernel_rfl) appPhi_stable (fun i v x _ => appSh_of i v x) (fun _ _ => ⟨0, rfl⟩) ?_
          intro W2 hW2 vsB hvsB
          obtain ⟨h1B, e1B⟩ : ∃ g, vsB 11 = .slice (some ⟨g, 0, none⟩) 1 1 := hvsB 11 rfl
          have BWB := Lib.hid (BP.out.trans (hW2.mono hq3))
          have cWB : ∃ x, extC W2 x := ⟨W2, extC_of (Below.refl _ _)⟩
          have bigB : ∀ x, extC W2 x → w.heap.size + 1 ≤ x.heap.size := fun x ⟨u, hu⟩ => by rw [hu]; exact Nat.le_trans (Nat.le_trans hqD3 hW2.size) (ext_size W2 u)
          have cB := (GP.out.keep hW2).box.cell 3
          simp at cB
          simp only [List.take_succ_cons, List.take_zero, List.drop_succ_cons, List.drop_zero]
          refine wpV_quiet cWB 11 0 _ _ (by decide) (by decide) ?_
          simp only [List.take_succ_cons, List.take_zero, List.drop_succ_cons, List.drop_zero]
          repeat (go_big_quiet_step (first
              | (go_at_call 130; with_reducible refine calls_ext (MK.out.product _ ?_ a b hlt hlt2); exact BWB.out.trans ((ext_below _ _).mono BWB.out.size))
              | (go_at_call 128; with_reducible refine calls_ext (MK.out.prodNum _ ?_ a b hlt hlt2); exact BWB.out.trans ((ext_below _ _).mono BWB.out.size))))
          refine wpQuiet_nil ?_
          refine wpV_make' rfl rfl (fun x hx => makesAt_mono (makes_one _ _ rfl rfl x) fun v x' ⟨g, p1, p2, p3⟩ => ⟨g, p1, Nat.le_trans (bigB x hx) p2, p3⟩) ?_
          rw [e1B]
          go_simp
          refine wpV_nil ?_
          intro wn hbB hfactsB _
          obtain ⟨gB, q1B, _, r1B⟩ := hfactsB 11 (by omega) rfl
          have egB : gB = h1B := by rw [e1B] at q1B; simp at q1B; exact q1B.symm
          subst egB
          have gkB := GP.out.keep hbB
          refine wpList_append_lies _ rfl _ _ _ rfl (w.heap.size + 1) 3 i0 _ 1 8 Try.underlying22 hi hz0 hz1 hz2 rfl (by omega) v3 (a * m + b) _ rfl gkB.o3 ⟨gB, 0, none⟩ 1 1 _ rfl rfl (World.news_of_block r1B) (by simp [Value.oneCell']) (by omega) hkk hbt (Nat.le_trans hqD3 hbB.size) _ rfl ?_
          intro g9 cap9 w8 hownB hgrowB hatB _
          have ffB : w8.frozen? ⟨bx, 3, none⟩ = false := by rw [hgrowB.frozen_far _ gkB.box.lt (Ne.symm nnB)]; exact gkB.box.frozen 3
          have ccB : w8.cell? ⟨bx, 3, none⟩ = some v3 := by rw [hgrowB.cell_far _ gkB.box.lt (Ne.symm nnB)]; exact gkB.box.cell 3
          obtain ⟨gpB, bpB⟩ := gkB.put3 hownB hgrowB hatB
          go_wp2_with (fail)
          have GQ := Lib.hid gpB
          have BQ := Lib.hid (BP0.out.trans ((hbB.mono hqD3).trans bpB))
          clear gpB bpB hownB hgrowB hatB ffB ccB gkB hbB hfactsB q1B r1B cB nnB GWB BWB cWB bigB hW2 hvsB
          obtain ⟨wf, hwf⟩ : ∃ wf, w8.setCell ⟨bx, 3, none⟩ (.slice (some ⟨g9, 0, none⟩) (a * m + b + 1) cap9) = wf := ⟨_, rfl⟩
          rw [hwf] at GQ BQ ⊢
          clear hwf
          go_wp2
          go_roundw
          case rel => exact ⟨b + 1, _, _, by omega, by go_num, by
            have := GQ.out
            rw [← tabZ_at hlt2, ← tabZ_at hlt2] at this
            exact this, BQ.out⟩
          case measure => simp [intOf]; omega
        · have hbm : b = m := by omega
          subst hbm
          go_wp2
          go_roundw
          case rel => exact ⟨a + 1, v2, v3, by omega, by go_num, by rw [Nat.succ_mul]; exact GR.out, BR.out⟩
          case measure => simp [intOf]; omega
    · have ham : a = m := by omega
      subst ham
      have hpos : 0 < a * a := Nat.mul_pos hm hm
      obtain ⟨h2, cap2, e2, _, _⟩ := GR.out.o2.form hpos
      obtain ⟨h3, cap3, e3, _, _⟩ := GR.out.o3.form hpos
      subst e2 e3
      have ZR := Lib.hid ((K1.out.below (BV.out) (Nat.lt_succ_self _)).below BR.out (Nat.lt_succ_self _))
      have c0 := GR.out.box.cell 0
      have c1 := GR.out.box.cell 1
      have c2 := GR.out.box.cell 2
      have c3 := GR.out.box.cell 3
      have d0 := ZR.out.cell 0
      have d1 := ZR.out.cell 1
      have d2 := ZR.out.cell 2
      have d3 := ZR.out.cell 3
      have f0 := ZR.out.frozen 0
      have f1 := ZR.out.frozen 1
      have f2 := ZR.out.frozen 2
      have f3 := ZR.out.frozen 3
      simp at c0 c1 c2 c3 d0 d1 d2 d3
      go_wp2
      refine bodyPost_ret (v := .agg #[.int .i64 a, .int .i64 o, .slice (some ⟨h2, 0, none⟩) (a * a) cap2, .slice (some ⟨h3, 0, none⟩) (a * a) cap3]) ?_ rfl ⟨_, rfl, ?_, ?_⟩
      · exact results_cell_row Try.results61 _ _ w.heap.size 28 _ (0, 0) _ rfl (store4_blk ZR.out) Try.underlying28 rfl (by kernel_rfl)
      · exact (GR.out.result ZR.out (by decide)).mono (Nat.le_succ _)
      · exact store4_below (B1.out.trans ((BV.out.trans BR.out).mono (Nat.le_succ _))) (Nat.le_refl _)

end Go.Proofs.Ytocoegekdamlbaa
