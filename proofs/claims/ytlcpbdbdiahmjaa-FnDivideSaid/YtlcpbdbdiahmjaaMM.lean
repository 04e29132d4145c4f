/- Texts of this seat in one: G6 G7 P1 P2 P3. -/
import Derived.Test.YtlcpbdbdiahmjaaMC
import Derived.Deep.Cut
import Derived.Test.YtlcpbdbdiahmjaaMB
import Derived.Lib.Bytealg
import Derived.Lib.Walk

/- The product of two rings, as the reading side makes it. -/
namespace Go.Proofs.Ytlcpbdbdiahmjaa
open Go.RowKit
set_option maxRecDepth 100000

/-- The tables of a product. -/
def prodF (m q : Nat) (S T : Nat → Nat) (a b : Nat) : Nat := S (a / q * m + b / q) * q + T (a % q * q + b % q)
def tabG (m : Nat) (f : Nat → Nat → Nat) (k : Nat) : List Int := (List.range k).map fun j => ((f (j / m) (j % m) : Nat) : Int)
theorem tabG_succ {m k : Nat} {f : Nat → Nat → Nat} : tabG m f (k + 1) = tabG m f k ++ [((f (k / m) (k % m) : Nat) : Int)] := by simp [tabG, List.range_succ]
theorem tabG_length {m k : Nat} {f : Nat → Nat → Nat} : (tabG m f k).length = k := by simp [tabG]
theorem sqN {m : Nat} (hm' : m ≤ 16) : m * m ≤ 1000 := by
  have h2 : m * m ≤ 16 * 16 := Nat.mul_le_mul hm' hm'
  omega
theorem prod_parts {m q A : Nat} (hq : 1 ≤ q) (hA : A < m * q) : A / q < m ∧ A % q < q := ⟨Nat.div_lt_of_lt_mul (by rw [Nat.mul_comm]; exact hA), Nat.mod_lt _ hq⟩
theorem mul_sum {x y m q : Nat} (hx : x < m) (hy : y < q) (hm : m ≤ 16) (hq : q ≤ 16) : (x : Int) * q ≤ 256 ∧ 0 ≤ (x : Int) * q ∧ (x : Int) * q + y ≤ 300 ∧ (x : Int) * q + y = ((x * q + y : Nat) : Int) := by
  have h1 : x * q ≤ 16 * 16 := Nat.mul_le_mul (by omega) hq
  have e : (x : Int) * q = ((x * q : Nat) : Int) := by simp
  rw [e]
  omega

set_option maxHeartbeats 4000000 in
theorem l1Product_any (m e b1 o1 la ca b2 o2 lb cb : Nat) (S P : Nat → Nat) (q f c1 p1 ka da c2 p2 kb db : Nat) (T U : Nat → Nat) (w : World) (hr : RingAt w m e b1 o1 la ca b2 o2 lb cb S P) (hs : RingAt w q f c1 p1 ka da c2 p2 kb db T U) (hmq : m * q ≤ 16) :
    Calls Try.prog 133 #[.agg #[.int .i64 m, .int .i64 e, .slice (some ⟨b1, o1, none⟩) la ca, .slice (some ⟨b2, o2, none⟩) lb cb], .agg #[.int .i64 q, .int .i64 f, .slice (some ⟨c1, p1, none⟩) ka da, .slice (some ⟨c2, p2, none⟩) kb db]] w fun e' w' =>
      ∃ v, e' = .returned v ∧ NewRing w.heap.size w' v ((m * q : Nat) : Int) ((e * q + f : Nat) : Int) (m * q * (m * q)) (tabG (m * q) (prodF m q S T) (m * q * (m * q))) (tabG (m * q) (prodF m q P U) (m * q * (m * q))) ∧ Below w.heap.size w w' := by
  obtain ⟨i0, hi, hz0, hz1, hz2⟩ := info_parts int_info
  have hm := hr.hm
  have hm' := hr.hm'
  have hq := hs.hm
  have hq' := hs.hm'
  have he := hr.he
  have hf := hs.he
  obtain ⟨N, hN⟩ : ∃ N, N = m * q := ⟨_, rfl⟩
  have hN1 : 1 ≤ N := by rw [hN]; exact Nat.mul_pos hm hq
  rw [← hN] at hmq ⊢
  have eN : (m : Int) * q = (N : Int) := by rw [hN]; simp
  obtain ⟨s1, s2, s3, s4⟩ := sqI hmq
  obtain ⟨u1, u2, u3, u4⟩ := mul_sum he hf hm' hq'
  clear u4
  have S3 := Lib.hid s3
  have HN := Lib.hid hN
  have HR := Lib.hid hr
  have HS := Lib.hid hs
  clear s3 hr hs hN
  go_enter Try.func133, Try.ntmps133
  go_upto_region 2 with (fail)
  obtain ⟨W, hW⟩ : ∃ W, (((w.alloc (.cells #[.int .i64 m, .int .i64 e, .slice (some ⟨b1, o1, none⟩) la ca, .slice (some ⟨b2, o2, none⟩) lb cb] 25)).alloc (.cells #[.int .i64 q, .int .i64 f, .slice (some ⟨c1, p1, none⟩) ka da, .slice (some ⟨c2, p2, none⟩) kb db] 25)).alloc (.cells #[.int .i64 0, .int .i64 0, .slice none 0 0, .slice none 0 0] 25)).alloc (.cells #[.int .i64 N, .int .i64 ((e : Int) * q + f), .slice none 0 0, .slice none 0 0] 25) = W := ⟨_, rfl⟩
  obtain ⟨D, hD⟩ : ∃ D, D = w.heap.size + 1 + 1 + 1 := ⟨_, rfl⟩
  obtain ⟨bx, hbx⟩ : ∃ bx, bx = w.heap.size + 1 + 1 + 1 := ⟨_, rfl⟩
  have kR : Blk W w.heap.size 25 #[.int .i64 m, .int .i64 e, .slice (some ⟨b1, o1, none⟩) la ca, .slice (some ⟨b2, o2, none⟩) lb cb] := by
    subst hW; exact (((Blk.new w _ _).alloc _).alloc _).alloc _
  have kS : Blk W (w.heap.size + 1) 25 #[.int .i64 q, .int .i64 f, .slice (some ⟨c1, p1, none⟩) ka da, .slice (some ⟨c2, p2, none⟩) kb db] := by
    subst hW
    have := ((Blk.new (w.alloc (.cells #[.int .i64 m, .int .i64 e, .slice (some ⟨b1, o1, none⟩) la ca, .slice (some ⟨b2, o2, none⟩) lb cb] 25)) 25 #[.int .i64 q, .int .i64 f, .slice (some ⟨c1, p1, none⟩) ka da, .slice (some ⟨c2, p2, none⟩) kb db]).alloc (.cells #[.int .i64 0, .int .i64 0, .slice none 0 0, .slice none 0 0] 25)).alloc (.cells #[.int .i64 N, .int .i64 ((e : Int) * q + f), .slice none 0 0, .slice none 0 0] 25)
    rw [World.size_alloc] at this
    exact this
  have kZ : Blk W (w.heap.size + 1 + 1) 25 #[.int .i64 0, .int .i64 0, .slice none 0 0, .slice none 0 0] := by
    subst hW
    have := (Blk.new ((w.alloc (.cells #[.int .i64 m, .int .i64 e, .slice (some ⟨b1, o1, none⟩) la ca, .slice (some ⟨b2, o2, none⟩) lb cb] 25)).alloc (.cells #[.int .i64 q, .int .i64 f, .slice (some ⟨c1, p1, none⟩) ka da, .slice (some ⟨c2, p2, none⟩) kb db] 25)) 25 #[.int .i64 0, .int .i64 0, .slice none 0 0, .slice none 0 0]).alloc (.cells #[.int .i64 N, .int .i64 ((e : Int) * q + f), .slice none 0 0, .slice none 0 0] 25)
    rw [World.size_alloc, World.size_alloc] at this
    exact this
  have gW : Grow D W bx N ((e : Int) * q + f) (.slice none 0 0) (.slice none 0 0) 0 0 [] [] := by
    refine ⟨?_, by omega, World.ownsRow_nil _ _ _ _, World.ownsRow_nil _ _ _ _, by simp [Value.ownBlock], by simp [Value.ownBlock], by simp [Value.ownBlock]⟩
    subst hW
    have := Blk.new (((w.alloc (.cells #[.int .i64 m, .int .i64 e, .slice (some ⟨b1, o1, none⟩) la ca, .slice (some ⟨b2, o2, none⟩) lb cb] 25)).alloc (.cells #[.int .i64 q, .int .i64 f, .slice (some ⟨c1, p1, none⟩) ka da, .slice (some ⟨c2, p2, none⟩) kb db] 25)).alloc (.cells #[.int .i64 0, .int .i64 0, .slice none 0 0, .slice none 0 0] 25)) 25 #[.int .i64 N, .int .i64 ((e : Int) * q + f), .slice none 0 0, .slice none 0 0]
    rw [World.size_alloc, World.size_alloc, World.size_alloc, ← hbx] at this
    exact this
  have bW : Below w.heap.size w W := by
    subst hW
    exact ((((Below.refl _ _).alloc (Nat.le_refl _) _).alloc (by simp) _).alloc (by simp; omega) _).alloc (by simp; omega) _
  rw [hW, ← hbx]
  clear hW
  have KR := Lib.hid kR
  have KS := Lib.hid kS
  have KZ := Lib.hid kZ
  have GW := Lib.hid gW
  have BW := Lib.hid bW
  have RW := Lib.hid (HR.out.next bW)
  have SW := Lib.hid (HS.out.next bW)
  have HD := Lib.hid hD
  clear kR kS kZ gW bW hD hbx
  have c0 := GW.out.box.cell 0
  simp at c0
  go_wp2_with (fail)
  clear c0
  go_loopw [28] (fun i wr => ∃ (k : Nat) (v2 v3 : Value), k ≤ N * N ∧ i = .int .i64 k ∧ Grow D wr bx N ((e : Int) * q + f) v2 v3 k k (tabG N (prodF m q S T) k) (tabG N (prodF m q P U) k) ∧ Below D W wr) (fun i _ => N * N - (intOf i).toNat)
  case atStart => exact ⟨0, _, _, Nat.zero_le _, rfl, GW.out, Below.refl _ _⟩
  case round =>
    obtain ⟨k, v2, v3, hk, rfl, hg, hb⟩ := hrel
    have GR := Lib.hid hg
    have BR := Lib.hid hb
    have ltR : w.heap.size < D := by have := HD.out; omega
    have ltS : w.heap.size + 1 < D := by have := HD.out; omega
    have ltZ : w.heap.size + 1 + 1 < D := by have := HD.out; omega
    have KR1 := Lib.hid (KR.out.below hb ltR)
    have KS1 := Lib.hid (KS.out.below hb ltS)
    have KZ1 := Lib.hid (KZ.out.below hb ltZ)
    have RA0 := Lib.hid (HR.out.next (BW.out.trans (hb.mono (Nat.le_of_lt ltR))))
    have SA0 := Lib.hid (HS.out.next (BW.out.trans (hb.mono (Nat.le_of_lt ltR))))
    clear hg hb
    by_cases hlt : k < N * N
    · have i1 : (k : Int) < (N : Int) * N := by rw [S3.out]; omega
      obtain ⟨p1', p2'⟩ := parts2 hlt
      have c0 := GR.out.box.cell 0
      simp at c0
      obtain ⟨e1, e2⟩ : (k : Int) / N = ((k / N : Nat) : Int) ∧ (k : Int) % N = ((k % N : Nat) : Int) := ⟨by simp, by simp⟩
      have n1 : 0 ≤ (k : Int) / N := by rw [e1]; exact Int.natCast_nonneg _
      have n2 : (k : Int) / N ≤ 256 := by rw [e1]; exact (Int.ofNat_le (n := 256)).2 (by omega)
      have n3 : ¬ N = 0 := by omega
      have n4 : ¬ q = 0 := by omega
      have E1 := Lib.hid e1
      have E2 := Lib.hid e2
      clear e1 e2
      go_wp2
      go_quiet (fail)
      rw [E1.out, E2.out]
      obtain ⟨A, eA⟩ : ∃ A : Nat, A = k / N := ⟨_, rfl⟩
      obtain ⟨B, eB⟩ : ∃ B : Nat, B = k % N := ⟨_, rfl⟩
      rw [← eA] at p1' ⊢
      rw [← eB] at p2' ⊢
      have HA := Lib.hid eA
      have HB := Lib.hid eB
      clear eA eB n1 n2
      have GD := Lib.hid (GR.out.keep (below_drewN (Below.refl _ _) nq))
      have BD := Lib.hid (below_drewN BR.out nq)
      have KRA := Lib.hid (KR1.out.drewN nq)
      have KSA := Lib.hid (KS1.out.drewN nq)
      have RAA := Lib.hid (RA0.out.next (below_drewN (Below.refl _ _) nq))
      have SAA := Lib.hid (SA0.out.next (below_drewN (Below.refl _ _) nq))
      obtain ⟨w1, hw1⟩ : ∃ w1, wr.drewN nq = w1 := ⟨_, rfl⟩
      rw [hw1] at GD BD KRA KSA RAA SAA ⊢
      clear hw1 c0
      have GDDW := Lib.hid (show D ≤ w1.heap.size from Nat.le_of_lt (Nat.lt_of_le_of_lt GD.out.hD GD.out.box.lt))
      obtain ⟨pa, pb⟩ := prod_parts hq (show A < m * q by rw [← HN.out]; exact p1')
      obtain ⟨pc, pd⟩ := prod_parts hq (show B < m * q by rw [← HN.out]; exact p2')
      obtain ⟨a1, ea1⟩ : ∃ x : Nat, x = A / q := ⟨_, rfl⟩
      obtain ⟨a2, ea2⟩ : ∃ x : Nat, x = A % q := ⟨_, rfl⟩
      obtain ⟨z1, ez1⟩ : ∃ x : Nat, x = B / q := ⟨_, rfl⟩
      obtain ⟨z2, ez2⟩ : ∃ x : Nat, x = B % q := ⟨_, rfl⟩
      have f1 : (A : Int) / q = (a1 : Int) := by rw [ea1]; simp
      have f2 : (A : Int) % q = (a2 : Int) := by rw [ea2]; simp
      have f3 : (B : Int) / q = (z1 : Int) := by rw [ez1]; simp
      have f4 : (B : Int) % q = (z2 : Int) := by rw [ez2]; simp
      rw [← ea1] at pa
      rw [← ea2] at pb
      rw [← ez1] at pc
      rw [← ez2] at pd
      obtain ⟨sv, hsv⟩ : ∃ x : Nat, x = S (a1 * m + z1) := ⟨_, rfl⟩
      obtain ⟨tv, htv⟩ : ∃ x : Nat, x = T (a2 * q + z2) := ⟨_, rfl⟩
      obtain ⟨su, hsu⟩ : ∃ x : Nat, x = P (a1 * m + z1) := ⟨_, rfl⟩
      obtain ⟨tu, htu⟩ : ∃ x : Nat, x = U (a2 * q + z2) := ⟨_, rfl⟩
      have ls : sv < m := by rw [hsv]; exact HR.out.ts.lt pa pc
      have lt' : tv < q := by rw [htv]; exact HS.out.ts.lt pb pd
      have lu : su < m := by rw [hsu]; exact HR.out.tp.lt pa pc
      have lv : tu < q := by rw [htu]; exact HS.out.tp.lt pb pd
      obtain ⟨x1, x2, x3, x4⟩ := mul_sum ls lt' hm' hq'
      obtain ⟨x5, x6, x7, x8⟩ := mul_sum lu lv hm' hq'
      have HA1 := Lib.hid (show ∀ x, RingAt x m e b1 o1 la ca b2 o2 lb cb S P → Calls Try.prog 52 #[.agg #[.int .i64 m, .int .i64 e, .slice (some ⟨b1, o1, none⟩) la ca, .slice (some ⟨b2, o2, none⟩) lb cb], .int .i64 a1, .int .i64 z1] x fun e' w' => e' = .returned (.int .i64 sv) ∧ Below x.heap.size x w' from fun x h => by rw [hsv]; exact l1Add_any a1 z1 _ _ _ _ _ _ _ _ _ _ S P x h pa pc)
      have HA2 := Lib.hid (show ∀ x, RingAt x q f c1 p1 ka da c2 p2 kb db T U → Calls Try.prog 52 #[.agg #[.int .i64 q, .int .i64 f, .slice (some ⟨c1, p1, none⟩) ka da, .slice (some ⟨c2, p2, none⟩) kb db], .int .i64 a2, .int .i64 z2] x fun e' w' => e' = .returned (.int .i64 tv) ∧ Below x.heap.size x w' from fun x h => by rw [htv]; exact l1Add_any a2 z2 _ _ _ _ _ _ _ _ _ _ T U x h pb pd)
      have HB1 := Lib.hid (show ∀ x, RingAt x m e b1 o1 la ca b2 o2 lb cb S P → Calls Try.prog 51 #[.agg #[.int .i64 m, .int .i64 e, .slice (some ⟨b1, o1, none⟩) la ca, .slice (some ⟨b2, o2, none⟩) lb cb], .int .i64 a1, .int .i64 z1] x fun e' w' => e' = .returned (.int .i64 su) ∧ Below x.heap.size x w' from fun x h => by rw [hsu]; exact l1Mul_any a1 z1 _ _ _ _ _ _ _ _ _ _ S P x h pa pc)
      have HB2 := Lib.hid (show ∀ x, RingAt x q f c1 p1 ka da c2 p2 kb db T U → Calls Try.prog 51 #[.agg #[.int .i64 q, .int .i64 f, .slice (some ⟨c1, p1, none⟩) ka da, .slice (some ⟨c2, p2, none⟩) kb db], .int .i64 a2, .int .i64 z2] x fun e' w' => e' = .returned (.int .i64 tu) ∧ Below x.heap.size x w' from fun x h => by rw [htu]; exact l1Mul_any a2 z2 _ _ _ _ _ _ _ _ _ _ T U x h pb pd)
      have VS := Lib.hid (show ((sv : Int) * q + tv) = ((prodF m q S T (k / N) (k % N) : Nat) : Int) by
        rw [x4, hsv, htv, ea1, ea2, ez1, ez2, HA.out, HB.out]; rfl)
      have VP := Lib.hid (show ((su : Int) * q + tu) = ((prodF m q P U (k / N) (k % N) : Nat) : Int) by
        rw [x8, hsu, htu, ea1, ea2, ez1, ez2, HA.out, HB.out]; rfl)
      have b1' : (a1 : Int) ≤ 16 := by omega
      have b2' : (z1 : Int) ≤ 16 := by omega
      have hkk : k + 1 ≤ maxLen := by unfold maxLen; omega
      have hbt : (k + 1) * 8 ≤ 140737488355328 := by omega
      clear x4 x8 ea1 ea2 ez1 ez2 hsv htv hsu htu
      go_wp2_with (fail)
      refine wp_region_makers 27 (fun i => i == 26) (appPhi D (.int .i64 ((sv : Int) * q + tv))) appSh (fun _ => .slice (some ⟨0, 0, none⟩) 1 1) probe (by kernel_rfl) (by kernel_rfl) appPhi_stable (fun i v x _ => appSh_of i v x) (fun _ _ => ⟨0, rfl⟩) ?_
      intro W1 hW1 vsA hvsA
      obtain ⟨h1A, e1A⟩ : ∃ g, vsA 26 = .slice (some ⟨g, 0, none⟩) 1 1 := hvsA 26 rfl
      have cWA : ∃ x, extC W1 x := ⟨W1, extC_of (Below.refl _ _)⟩
      have bigA : ∀ x, extC W1 x → D ≤ x.heap.size := fun x ⟨u, hu⟩ => by rw [hu]; exact Nat.le_trans (Nat.le_trans (GDDW.out) hW1.size) (ext_size W1 u)
      have x0A := (KRA.out.below hW1 KRA.out.lt).cell 0
      have x1A := (KRA.out.below hW1 KRA.out.lt).cell 1
      have x2A := (KRA.out.below hW1 KRA.out.lt).cell 2
      have x3A := (KRA.out.below hW1 KRA.out.lt).cell 3
      have y0A := (KSA.out.below hW1 KSA.out.lt).cell 0
      have y1A := (KSA.out.below hW1 KSA.out.lt).cell 1
      have y2A := (KSA.out.below hW1 KSA.out.lt).cell 2
      have y3A := (KSA.out.below hW1 KSA.out.lt).cell 3
      have cA := (GD.out.keep hW1).box.cell 2
      simp at x0A x1A x2A x3A y0A y1A y2A y3A cA
      have RWA := Lib.hid (RAA.out.next hW1)
      have SWA := Lib.hid (SAA.out.next hW1)
      simp only [List.take_succ_cons, List.take_zero, List.drop_succ_cons, List.drop_zero]
      refine wpV_quiet cWA 26 0 _ _ (by decide) (by decide) ?_
      simp only [List.take_succ_cons, List.take_zero, List.drop_succ_cons, List.drop_zero]
      repeat (go_big_quiet_step (first
          | (go_at_call 52; with_reducible refine calls_ext (HA1.out _ (RWA.out.next (ext_below _ _))))
          | (go_at_call 52; with_reducible refine calls_ext (HA2.out _ (SWA.out.next (ext_below _ _))))))
      refine wpQuiet_nil ?_
      refine wpV_make' rfl rfl (fun x hx => makesAt_mono (makes_one _ _ rfl rfl x) fun v x' ⟨g, p1, p2, p3⟩ => ⟨g, p1, Nat.le_trans (bigA x hx) p2, p3⟩) ?_
      rw [e1A]
      go_simp
      refine wpV_nil ?_
      intro wm hbA hfactsA _
      obtain ⟨gA, q1A, _, r1A⟩ := hfactsA 26 (by omega) rfl
      have egA : gA = h1A := by rw [e1A] at q1A; simp at q1A; exact q1A.symm
      subst egA
      have gkA := GD.out.keep hbA
      refine wpList_append_lies _ rfl _ _ _ rfl D 3 i0 _ 1 8 Try.underlying23 hi hz0 hz1 hz2 rfl (by omega) v2 k _ rfl gkA.o2 ⟨gA, 0, none⟩ 1 1 _ rfl rfl (World.news_of_block r1A) (by simp [Value.oneCell']) (by omega) hkk hbt (Nat.le_trans GDDW.out hbA.size) _ rfl ?_
      intro gg cap w7 hownA hgrowA hatA _
      have nnA : v2.ownBlock ≠ some bx := GD.out.n2
      have ffA : w7.frozen? ⟨bx, 2, none⟩ = false := by rw [hgrowA.frozen_far _ gkA.box.lt (Ne.symm nnA)]; exact gkA.box.frozen 2
      have ccA : w7.cell? ⟨bx, 2, none⟩ = some v2 := by rw [hgrowA.cell_far _ gkA.box.lt (Ne.symm nnA)]; exact gkA.box.cell 2
      obtain ⟨gpA, bpA⟩ := gkA.put2 hownA hgrowA hatA
      go_wp2_with (fail)
      have GP := Lib.hid gpA
      have BP := Lib.hid (BD.out.trans ((hbA.mono GDDW.out).trans bpA))
      have KRB := Lib.hid (KRA.out.below ((hbA.mono GDDW.out).trans bpA) ltR)
      have KSB := Lib.hid (KSA.out.below ((hbA.mono GDDW.out).trans bpA) ltS)
      have RAB := Lib.hid (HR.out.next (BW.out.trans ((BD.out.trans ((hbA.mono GDDW.out).trans bpA)).mono (Nat.le_of_lt ltR))))
      have SAB := Lib.hid (HS.out.next (BW.out.trans ((BD.out.trans ((hbA.mono GDDW.out).trans bpA)).mono (Nat.le_of_lt ltR))))
      clear gpA bpA hownA hgrowA hatA ffA ccA gkA hbA hfactsA q1A r1A cA nnA cWA bigA hW1 hvsA x0A x1A x2A x3A y0A y1A y2A y3A
      obtain ⟨we, hwe⟩ : ∃ we, w7.setCell ⟨bx, 2, none⟩ (.slice (some ⟨gg, 0, none⟩) (k + 1) cap) = we := ⟨_, rfl⟩
      rw [hwe] at GP BP KRB KSB RAB SAB ⊢
      clear hwe
      have GPDW := Lib.hid (show D ≤ we.heap.size from Nat.le_of_lt (Nat.lt_of_le_of_lt GP.out.hD GP.out.box.lt))
      go_wp2_with (fail)
      refine wp_region_makers 27 (fun i => i == 26) (appPhi D (.int .i64 ((su : Int) * q + tu))) appSh (fun _ => .slice (some ⟨0, 0, none⟩) 1 1) probe (by kernel_rfl) (by kernel_rfl) appPhi_stable (fun i v x _ => appSh_of i v x) (fun _ _ => ⟨0, rfl⟩) ?_
      intro W2 hW2 vsB hvsB
      obtain ⟨h1B, e1B⟩ : ∃ g, vsB 26 = .slice (some ⟨g, 0, none⟩) 1 1 := hvsB 26 rfl
      have cWB : ∃ x, extC W2 x := ⟨W2, extC_of (Below.refl _ _)⟩
      have bigB : ∀ x, extC W2 x → D ≤ x.heap.size := fun x ⟨u, hu⟩ => by rw [hu]; exact Nat.le_trans (Nat.le_trans (GPDW.out) hW2.size) (ext_size W2 u)
      have x0B := (KRB.out.below hW2 KRB.out.lt).cell 0
      have x1B := (KRB.out.below hW2 KRB.out.lt).cell 1
      have x2B := (KRB.out.below hW2 KRB.out.lt).cell 2
      have x3B := (KRB.out.below hW2 KRB.out.lt).cell 3
      have y0B := (KSB.out.below hW2 KSB.out.lt).cell 0
      have y1B := (KSB.out.below hW2 KSB.out.lt).cell 1
      have y2B := (KSB.out.below hW2 KSB.out.lt).cell 2
      have y3B := (KSB.out.below hW2 KSB.out.lt).cell 3
      have cB := (GP.out.keep hW2).box.cell 3
      simp at x0B x1B x2B x3B y0B y1B y2B y3B cB
      have RWB := Lib.hid (RAB.out.next hW2)
      have SWB := Lib.hid (SAB.out.next hW2)
      simp only [List.take_succ_cons, List.take_zero, List.drop_succ_cons, List.drop_zero]
      refine wpV_quiet cWB 26 0 _ _ (by decide) (by decide) ?_
      simp only [List.take_succ_cons, List.take_zero, List.drop_succ_cons, List.drop_zero]
      repeat (go_big_quiet_step (first
          | (go_at_call 51; with_reducible refine calls_ext (HB1.out _ (RWB.out.next (ext_below _ _))))
          | (go_at_call 51; with_reducible refine calls_ext (HB2.out _ (SWB.out.next (ext_below _ _))))))
      refine wpQuiet_nil ?_
      refine wpV_make' rfl rfl (fun x hx => makesAt_mono (makes_one _ _ rfl rfl x) fun v x' ⟨g, p1, p2, p3⟩ => ⟨g, p1, Nat.le_trans (bigB x hx) p2, p3⟩) ?_
      rw [e1B]
      go_simp
      refine wpV_nil ?_
      intro wn hbB hfactsB _
      obtain ⟨gB, q1B, _, r1B⟩ := hfactsB 26 (by omega) rfl
      have egB : gB = h1B := by rw [e1B] at q1B; simp at q1B; exact q1B.symm
      subst egB
      have gkB := GP.out.keep hbB
      refine wpList_append_lies _ rfl _ _ _ rfl D 3 i0 _ 1 8 Try.underlying23 hi hz0 hz1 hz2 rfl (by omega) v3 k _ rfl gkB.o3 ⟨gB, 0, none⟩ 1 1 _ rfl rfl (World.news_of_block r1B) (by simp [Value.oneCell']) (by omega) hkk hbt (Nat.le_trans GPDW.out hbB.size) _ rfl ?_
      intro g9 cap9 w8 hownB hgrowB hatB _
      have nnB : v3.ownBlock ≠ some bx := GP.out.n3
      have ffB : w8.frozen? ⟨bx, 3, none⟩ = false := by rw [hgrowB.frozen_far _ gkB.box.lt (Ne.symm nnB)]; exact gkB.box.frozen 3
      have ccB : w8.cell? ⟨bx, 3, none⟩ = some v3 := by rw [hgrowB.cell_far _ gkB.box.lt (Ne.symm nnB)]; exact gkB.box.cell 3
      obtain ⟨gpB, bpB⟩ := gkB.put3 hownB hgrowB hatB
      go_wp2_with (fail)
      have GQ := Lib.hid gpB
      have BQ := Lib.hid (BP.out.trans ((hbB.mono GPDW.out).trans bpB))
      clear gpB bpB hownB hgrowB hatB ffB ccB gkB hbB hfactsB q1B r1B cB nnB cWB bigB hW2 hvsB x0B x1B x2B x3B y0B y1B y2B y3B
      obtain ⟨wf, hwf⟩ : ∃ wf, w8.setCell ⟨bx, 3, none⟩ (.slice (some ⟨g9, 0, none⟩) (k + 1) cap9) = wf := ⟨_, rfl⟩
      rw [hwf] at GQ BQ ⊢
      clear hwf
      go_wp2
      go_roundw
      case rel => exact ⟨k + 1, _, _, by omega, by go_num, by
        have := GQ.out
        rw [VS.out, VP.out, ← tabG_succ, ← tabG_succ] at this
        exact this, BQ.out⟩
      case measure => simp [intOf]; omega
    · have i1 : ¬ (k : Int) < (N : Int) * N := by rw [S3.out]; omega
      have hkm : k = N * N := by omega
      subst hkm
      have hpos : 0 < N * N := Nat.mul_pos hN1 hN1
      obtain ⟨g2, cap2, e2, _, _⟩ := GR.out.o2.form hpos
      obtain ⟨g3, cap3, e3, _, _⟩ := GR.out.o3.form hpos
      subst e2 e3
      have c0 := GR.out.box.cell 0
      have c1' := GR.out.box.cell 1
      have c2' := GR.out.box.cell 2
      have c3' := GR.out.box.cell 3
      have d0 := KZ1.out.cell 0
      have d1 := KZ1.out.cell 1
      have d2 := KZ1.out.cell 2
      have d3 := KZ1.out.cell 3
      have f0 := KZ1.out.frozen 0
      have f1 := KZ1.out.frozen 1
      have f2 := KZ1.out.frozen 2
      have f3 := KZ1.out.frozen 3
      simp at c0 c1' c2' c3' d0 d1 d2 d3
      go_wp2
      refine bodyPost_ret (v := .agg #[.int .i64 N, .int .i64 ((e : Int) * q + f), .slice (some ⟨g2, 0, none⟩) (N * N) cap2, .slice (some ⟨g3, 0, none⟩) (N * N) cap3]) ?_ rfl ⟨_, rfl, ?_, ?_⟩
      · exact results_cell_row Try.results133 _ _ (w.heap.size + 1 + 1) 25 _ (0, 0) _ rfl (store4_blk KZ1.out) Try.underlying25 rfl (by kernel_rfl)
      · exact (GR.out.result KZ1.out (by decide)).mono (Nat.le_of_lt ltR)
      · exact store4_below (BW.out.trans (BR.out.mono (Nat.le_of_lt ltR))) (by omega)

end Go.Proofs.Ytlcpbdbdiahmjaa



/- ProductRing of the reading side. -/
namespace Go.Proofs.Ytlcpbdbdiahmjaa
open Go.RowKit
set_option maxRecDepth 100000

end Go.Proofs.Ytlcpbdbdiahmjaa



/- Bytes that are found: IndexByte, l13Find, l1Digit. -/
namespace Go.Proofs.Ytlcpbdbdiahmjaa
open Go.RowKit

end Go.Proofs.Ytlcpbdbdiahmjaa



/- A table that is read from a text: readTable. -/
namespace Go.Proofs.Ytlcpbdbdiahmjaa
open Go.RowKit
set_option maxRecDepth 100000

def intsV (l : List Int) : List Value := l.map (.int .i64)
theorem intsV_one (l : List Int) (x : Int) : intsV l ++ [.int .i64 x] = intsV (l ++ [x]) := by simp [intsV]
end Go.Proofs.Ytlcpbdbdiahmjaa



/- The reading side's ways with bytes: l13Find, l1Digit, l1Table. -/
namespace Go.Proofs.Ytlcpbdbdiahmjaa
open Go.RowKit
set_option maxRecDepth 100000

end Go.Proofs.Ytlcpbdbdiahmjaa

