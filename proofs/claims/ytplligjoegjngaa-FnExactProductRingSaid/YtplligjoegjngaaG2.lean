/- The integers by a number, as the reading side makes them. -/
import Derived.Test.YtplligjoegjngaaG1
namespace Go.Proofs.Ytplligjoegjngaa
open Go.RowKit

/-- A ring that a call made: its slices are its own, and share no block. -/
def NewRing (D : Nat) (w : World) (v : Value) (n o : Int) (k : Nat) (X Y : List Int) : Prop :=
  ∃ v2 v3, v = .agg #[.int .i64 n, .int .i64 o, v2, v3] ∧ w.ownsRow D 3 1 v2 k (X.map (.int .i64)) ∧ w.ownsRow D 3 1 v3 k (Y.map (.int .i64)) ∧ (∀ g, v2.ownBlock = some g → v3.ownBlock ≠ some g)

/-- The box of the result gets the box that was built. -/
def store4 (w : World) (b : Nat) (v0 v1 v2 v3 : Value) : World := (((w.setCell ⟨b, 0, none⟩ v0).setCell ⟨b, 1, none⟩ v1).setCell ⟨b, 2, none⟩ v2).setCell ⟨b, 3, none⟩ v3
theorem store4_blk {w : World} {b : Nat} {a0 a1 a2 a3 v0 v1 v2 v3 : Value} {t : TypeId} (h : Blk w b t #[a0, a1, a2, a3]) : Blk (store4 w b v0 v1 v2 v3) b t #[v0, v1, v2, v3] := by
  have := (((h.set_ 0 v0).set_ 1 v1).set_ 2 v2).set_ 3 v3
  simpa [store4] using this
theorem store4_own {w : World} {b D k : Nat} {e : TypeId} {v v0 v1 v2 v3 : Value} {xs : List Value} (h : w.ownsRow D e 1 v k xs) (hb : v.ownBlock ≠ some b) : (store4 w b v0 v1 v2 v3).ownsRow D e 1 v k xs :=
  ownsRow_setCell_other (ownsRow_setCell_other (ownsRow_setCell_other (ownsRow_setCell_other h hb _) hb _) hb _) hb _
theorem store4_below {w w' : World} {b D : Nat} {v0 v1 v2 v3 : Value} (h : Below D w w') (hb : D ≤ b) : Below D w (store4 w' b v0 v1 v2 v3) := (((h.setCell hb _).setCell hb _).setCell hb _).setCell hb _
theorem NewRing.mono {D D' : Nat} {w : World} {v : Value} {n o : Int} {k : Nat} {X Y : List Int} (h : NewRing D w v n o k X Y) (hD : D' ≤ D) : NewRing D' w v n o k X Y := by
  obtain ⟨v2, v3, rfl, h2, h3, h4⟩ := h
  exact ⟨v2, v3, rfl, own_base h2 hD, own_base h3 hD, h4⟩
theorem Grow.result {D : Nat} {w : World} {bx b : Nat} {n o : Int} {v2 v3 : Value} {k : Nat} {X Y : List Int} {T : TypeId} {cs : Array Value} (h : Grow D w bx n o v2 v3 k k X Y) (hb : Blk w b T cs) (hT : T ≠ 3) :
    NewRing D (store4 w b (.int .i64 n) (.int .i64 o) v2 v3) (.agg #[.int .i64 n, .int .i64 o, v2, v3]) n o k X Y := by
  have ne : ∀ {v : Value} {k : Nat} {xs : List Value}, w.ownsRow D 3 1 v k xs → v.ownBlock ≠ some b := by
    intro v k xs ho e
    rcases ho.2 with ⟨rfl, _⟩ | ⟨g, cap, cur, rfl, _, hg, _⟩
    · cases e
    · have : g = b := by simpa [Value.ownBlock] using e
      subst this
      unfold Blk at hb
      rw [hg] at hb
      injection hb with hb
      injection hb with _ hb
      exact hT hb.symm
  exact ⟨v2, v3, rfl, store4_own h.o2 (ne h.o2), store4_own h.o3 (ne h.o3), h.n23⟩

def addZ (m k : Nat) : List Int := (List.range k).map fun j => (((j / m + j % m) % m : Nat) : Int)
def mulZ (m k : Nat) : List Int := (List.range k).map fun j => ((j / m * (j % m) % m : Nat) : Int)
theorem addZ_succ {m k : Nat} : addZ m (k + 1) = addZ m k ++ [(((k / m + k % m) % m : Nat) : Int)] := by simp [addZ, List.range_succ]
theorem mulZ_succ {m k : Nat} : mulZ m (k + 1) = mulZ m k ++ [((k / m * (k % m) % m : Nat) : Int)] := by simp [mulZ, List.range_succ]
theorem sqI {m : Nat} (hm' : m ≤ 16) : (m : Int) * m ≤ 256 ∧ 0 ≤ (m : Int) * m ∧ (m : Int) * m = ((m * m : Nat) : Int) ∧ m * m ≤ 256 := by
  have h2 : m * m ≤ 16 * 16 := Nat.mul_le_mul hm' hm'
  have e1 : (m : Int) * m = ((m * m : Nat) : Int) := by simp
  rw [e1]; omega
theorem parts2 {m k : Nat} (hk : k < m * m) : k / m < m ∧ k % m < m := by
  have hm : 0 < m := by
    rcases Nat.eq_zero_or_pos m with h | h
    · subst h; omega
    · exact h
  exact ⟨Nat.div_lt_of_lt_mul hk, Nat.mod_lt _ hm⟩

set_option maxHeartbeats 4000000 in
set_option maxRecDepth 100000 in
theorem l1Integers_any (m : Nat) (hm : 1 ≤ m) (hm' : m ≤ 16) (w : World) :
    Calls Try.prog 74 #[.int .i64 m] w fun e w' => ∃ v, e = .returned v ∧ NewRing w.heap.size w' v m ((1 % m : Nat) : Int) (m * m) (addZ m (m * m)) (mulZ m (m * m)) ∧ Below w.heap.size w w' := by
  obtain ⟨i0, hi, hz0, hz1, hz2⟩ := info_parts int_info
  obtain ⟨s1, s2, s3, s4⟩ := sqI hm'
  have S3 := Lib.hid s3
  clear s3
  go_enter Try.func74, Try.ntmps74
  go_wp2_with (fail)
  obtain ⟨W, hW⟩ : ∃ W, (w.alloc (.cells #[.int .i64 0, .int .i64 0, .slice none 0 0, .slice none 0 0] 24)).alloc (.cells #[.int .i64 m, .int .i64 (1 % (m : Int)), .slice none 0 0, .slice none 0 0] 24) = W := ⟨_, rfl⟩
  have k0 : Blk W w.heap.size 24 #[.int .i64 0, .int .i64 0, .slice none 0 0, .slice none 0 0] := by subst hW; exact (Blk.new w _ _).alloc _
  have k1 : Grow (w.heap.size + 1) W (w.heap.size + 1) m (1 % (m : Int)) (.slice none 0 0) (.slice none 0 0) 0 0 [] [] := by
    refine ⟨?_, by omega, World.ownsRow_nil _ _ _ _, World.ownsRow_nil _ _ _ _, by simp [Value.ownBlock], by simp [Value.ownBlock], by simp [Value.ownBlock]⟩
    subst hW; simpa using Blk.new (w.alloc (.cells #[.int .i64 0, .int .i64 0, .slice none 0 0, .slice none 0 0] 24)) 24 #[.int .i64 m, .int .i64 (1 % (m : Int)), .slice none 0 0, .slice none 0 0]
  have b0 : Below w.heap.size w W := by subst hW; exact ((Below.refl _ _).alloc (Nat.le_refl _) _).alloc (by simp) _
  rw [hW]
  clear hW
  have K0 := Lib.hid k0
  have K1 := Lib.hid k1
  have B0 := Lib.hid b0
  have hs0 : W.heap.size = W.heap.size := rfl
  clear k0 k1 b0
  go_loopw [14] (fun i wr => ∃ (k : Nat) (v2 v3 : Value), k ≤ m * m ∧ i = .int .i64 k ∧ Grow (w.heap.size + 1) wr (w.heap.size + 1) m (1 % (m : Int)) v2 v3 k k (addZ m k) (mulZ m k) ∧ Below (w.heap.size + 1) W wr) (fun i _ => m * m - (intOf i).toNat)
  case atStart => exact ⟨0, _, _, Nat.zero_le _, rfl, K1.out, Below.refl _ _⟩
  case round =>
    obtain ⟨k, v2, v3, hk, rfl, hg, hb⟩ := hrel
    have hz := K0.out.below hb (by omega)
    have GR := Lib.hid hg
    have BR := Lib.hid hb
    have ZR := Lib.hid hz
    clear hg hb hz
    by_cases hlt : k < m * m
    · have i1 : (k : Int) < (m : Int) * m := by rw [S3.out]; omega
      obtain ⟨p1, p2⟩ := parts2 hlt
      have c2 := GR.out.box.cell 2
      have f2 := GR.out.box.frozen 2
      simp at c2
      obtain ⟨e1, e2⟩ : (k : Int) / m = ((k / m : Nat) : Int) ∧ (k : Int) % m = ((k % m : Nat) : Int) := ⟨by simp, by simp⟩
      have n1 : 0 ≤ (k : Int) / m := by rw [e1]; exact Int.natCast_nonneg _
      have n2 : (k : Int) / m ≤ 256 := by rw [e1]; exact (Int.ofNat_le (n := 256)).2 (by omega)
      have n3 : ¬ m = 0 := by omega
      have E1 := Lib.hid e1
      have E2 := Lib.hid e2
      clear e1 e2
      go_wp2
      go_quiet (fail)
      rw [E1.out, E2.out]
      obtain ⟨A, eA⟩ : ∃ A : Nat, A = k / m := ⟨_, rfl⟩
      obtain ⟨B, eB⟩ : ∃ B : Nat, B = k % m := ⟨_, rfl⟩
      rw [← eA] at p1 ⊢
      rw [← eB] at p2 ⊢
      have HA := Lib.hid eA
      have HB := Lib.hid eB
      clear eA eB
      have GD := Lib.hid (GR.out.keep (below_drewN (Below.refl _ _) nq))
      have BD := Lib.hid (below_drewN BR.out nq)
      obtain ⟨w1, hw1⟩ : ∃ w1, wr.drewN nq = w1 := ⟨_, rfl⟩
      rw [hw1] at GD BD ⊢
      clear hw1
      have c2 := GD.out.box.cell 2
      have f2 := GD.out.box.frozen 2
      simp at c2
      have hq : w.heap.size + 1 ≤ w1.heap.size := Nat.le_of_lt GD.out.box.lt
      have hkk : k + 1 ≤ maxLen := by unfold maxLen; omega
      have hbt : (k + 1) * 8 ≤ 140737488355328 := by omega
      have hl1 : w.heap.size + 1 < w1.heap.size := GD.out.box.lt
      have hw1 : IntKind.i64.wrap ((A : Int) + B) = (A : Int) + B := IntWalk.i64_in _ (by omega)
      have hw2 : ((A : Int) + B).tmod m = (((A + B) % m : Nat) : Int) := by
        rw [Int.tmod_eq_emod_of_nonneg (by omega)]; simp
      have nn : v2.ownBlock ≠ some (w.heap.size + 1) := GD.out.n2
      go_wp2_with (fail)
      go_region_law
        ((refine step_append_lies _ (by rfl) _ _ _ (by rfl) (w.heap.size + 1) 3 i0 _ 1 8 Try.underlying22 hi hz0 hz1 hz2 rfl (by omega) v2 k _ (by rfl) ((GD.out.o2.alloc _).drew)
            ⟨w1.heap.size, 0, none⟩ 1 1 _ (by rfl) (by rfl) (World.news_of_block (t := 3) (fr := (0, 0)) (heap_alloc_new w1 _)) (by simp [Value.oneCell'])
            (by omega) hkk hbt (by simp; omega) (w1.heap.size + 1) (by simp) ?_; intro gg cap w2 hown1 hgrow hat hlt2
          have cc : w2.cell? ⟨w.heap.size + 1, 2, none⟩ = some v2 := by rw [hgrow.cell_far _ (by simp; omega) (Ne.symm nn)]; exact (GD.out.box.alloc _).cell 2
          have ff : w2.frozen? ⟨w.heap.size + 1, 2, none⟩ = false := by rw [hgrow.frozen_far _ (by simp; omega) (Ne.symm nn)]; exact (GD.out.box.alloc _).frozen 2))
      all_goals
        obtain ⟨gp, bp⟩ := GD.out.app2 (T := 3) hown1 hgrow hat hq
        have GP := Lib.hid gp
        have BP := Lib.hid (BD.out.trans bp)
        clear gp bp hown1 hgrow hat hlt2 cc ff c2 f2 hw1 hw2 nn
        obtain ⟨w3, hw3⟩ : ∃ w3, w2.setCell ⟨w.heap.size + 1, 2, none⟩ (.slice (some ⟨gg, 0, none⟩) (k + 1) cap) = w3 := ⟨_, rfl⟩
        rw [hw3] at GP BP ⊢
        clear hw3
        have c3 := GP.out.box.cell 3
        have f3 := GP.out.box.frozen 3
        simp at c3
        have hq3 : w.heap.size + 1 ≤ w3.heap.size := Nat.le_of_lt GP.out.box.lt
        have hl3 : w.heap.size + 1 < w3.heap.size := GP.out.box.lt
        have nn : v3.ownBlock ≠ some (w.heap.size + 1) := GP.out.n3
        have hab : (A : Int) * B = ((A * B : Nat) : Int) := by simp
        have hab2 : A * B ≤ 16 * 16 := Nat.mul_le_mul (by omega) (by omega)
        have hw1 : IntKind.i64.wrap ((A : Int) * B) = (A : Int) * B := IntWalk.i64_in _ (by rw [hab]; omega)
        have hw2 : ((A : Int) * B).tmod m = ((A * B % m : Nat) : Int) := by
          rw [Int.tmod_eq_emod_of_nonneg (by rw [hab]; omega)]; simp
        have hab3 : (0 : Int) ≤ (A : Int) * B := by rw [hab]; omega
        clear hab hab2
        go_wp2_with (fail)
        go_region_law
          ((refine step_append_lies _ (by rfl) _ _ _ (by rfl) (w.heap.size + 1) 3 i0 _ 1 8 Try.underlying22 hi hz0 hz1 hz2 rfl (by omega) v3 k _ (by rfl) ((GP.out.o3.alloc _).drew)
              ⟨w3.heap.size, 0, none⟩ 1 1 _ (by rfl) (by rfl) (World.news_of_block (t := 3) (fr := (0, 0)) (heap_alloc_new w3 _)) (by simp [Value.oneCell'])
              (by omega) hkk hbt (by simp; omega) (w3.heap.size + 1) (by simp) ?_; intro g9 cap9 w4 hown1 hgrow hat hlt2
            have cc : w4.cell? ⟨w.heap.size + 1, 3, none⟩ = some v3 := by rw [hgrow.cell_far _ (by simp; omega) (Ne.symm nn)]; exact (GP.out.box.alloc _).cell 3
            have ff : w4.frozen? ⟨w.heap.size + 1, 3, none⟩ = false := by rw [hgrow.frozen_far _ (by simp; omega) (Ne.symm nn)]; exact (GP.out.box.alloc _).frozen 3))
        all_goals
          obtain ⟨gp, bp⟩ := GP.out.app3 (T := 3) hown1 hgrow hat hq3
          have GQ := Lib.hid gp
          have BQ := Lib.hid (BP.out.trans bp)
          clear gp bp hown1 hgrow hat hlt2 cc ff c3 f3 hw1 hw2 nn
          obtain ⟨w5, hw5⟩ : ∃ w5, w4.setCell ⟨w.heap.size + 1, 3, none⟩ (.slice (some ⟨g9, 0, none⟩) (k + 1) cap9) = w5 := ⟨_, rfl⟩
          rw [hw5] at GQ BQ ⊢
          clear hw5
          go_wp2
          go_roundw
          case rel => exact ⟨k + 1, _, _, by omega, by go_num, by
            rw [addZ_succ, mulZ_succ, ← HA.out, ← HB.out]
            have := GQ.out
            simpa using this, BQ.out⟩
          case measure => simp [intOf]; omega
    · have i1 : ¬ (k : Int) < (m : Int) * m := by rw [S3.out]; omega
      have hkm : k = m * m := by omega
      subst hkm
      have hpos : 0 < m * m := Nat.mul_pos hm hm
      obtain ⟨g2, cap2, e2, _, _⟩ := GR.out.o2.form hpos
      obtain ⟨g3, cap3, e3, _, _⟩ := GR.out.o3.form hpos
      subst e2 e3
      have c0 := GR.out.box.cell 0
      have c1 := GR.out.box.cell 1
      have c2 := GR.out.box.cell 2
      have c3 := GR.out.box.cell 3
      have d0 := ZR.out.cell 0
      have d1 := ZR.out.cell 1
      have d2 := ZR.out.cell 2
      have d3 := ZR.out.cell 3
      have f0 := ZR.out.frozen 0
      have f1 := ZR.out.frozen 1
      have f2 := ZR.out.frozen 2
      have f3 := ZR.out.frozen 3
      simp at c0 c1 c2 c3 d0 d1 d2 d3
      go_wp2
      refine bodyPost_ret (v := .agg #[.int .i64 m, .int .i64 (1 % (m : Int)), .slice (some ⟨g2, 0, none⟩) (m * m) cap2, .slice (some ⟨g3, 0, none⟩) (m * m) cap3]) ?_ rfl ⟨_, rfl, ?_, ?_⟩
      · exact results_cell_row Try.results74 _ _ w.heap.size 24 _ (0, 0) _ rfl (store4_blk ZR.out) Try.underlying24 rfl (by kernel_rfl)
      · exact (GR.out.result ZR.out (by decide)).mono (by omega)
      · exact store4_below (B0.out.trans (BR.out.mono (by omega))) (Nat.le_refl _)

end Go.Proofs.Ytplligjoegjngaa
