/- Texts of this seat in one: CA CB CG CH. -/
import Derived.Test.YtahdkdpliphcnaaNG
import Derived.Test.YtahdkdpliphcnaaMC
import Derived.Test.YtahdkdpliphcnaaNH
import Derived.Deep.Cut

/- Codes: sums of products, numbers and digits of vectors. Plain facts. -/
namespace Go.Proofs.Ytahdkdpliphcnaa
open Go.RowKit
set_option maxRecDepth 100000

theorem cpow_le {m k : Nat} (hm : m ≤ 16) (hk : k ≤ 4) : m ^ k ≤ 65536 := Nat.le_trans (Nat.pow_le_pow_left hm k) (Nat.pow_le_pow_right (n := 16) (by omega) hk)
theorem cpow_step (m k : Nat) : ((m ^ k : Nat) : Int) * (m : Int) = ((m ^ (k + 1) : Nat) : Int) := by rw [Nat.pow_succ]; simp
theorem cblk5 {w : World} {g : Nat} {t : TypeId} {a b c d e : Value} (h : Blk w g t #[a, b, c, d, e]) : w.cell? ⟨g, 0, none⟩ = some a ∧ w.cell? ⟨g, 1, none⟩ = some b ∧ w.cell? ⟨g, 2, none⟩ = some c ∧ w.cell? ⟨g, 3, none⟩ = some d ∧ w.cell? ⟨g, 4, none⟩ = some e :=
  ⟨h.cell 0, h.cell 1, h.cell 2, h.cell 3, h.cell 4⟩

/-- The sum of the products of the first so many elements. -/
def dotN (m : Nat) (S P F G : Nat → Nat) : Nat → Nat
  | 0 => 0
  | i + 1 => S (dotN m S P F G i * m + P (F i * m + G i))
/-- The number that the first so many digits make. -/
def numN (m : Nat) (F : Nat → Nat) : Nat → Nat
  | 0 => 0
  | i + 1 => numN m F i * m + F i
/-- The digits of a number. -/
def vecF (m n k i : Nat) : Nat := k / m ^ (n - 1 - i) % m

section
variable {m l : Nat} {S P F G : Nat → Nat}
theorem dot_lt (hm : 1 ≤ m) (hS : ∀ k, k < m * m → S k < m) (hP : ∀ x y, x < m → y < m → P (x * m + y) < m) (hF : ∀ i, i < l → F i < m) (hG : ∀ i, i < l → G i < m) : ∀ k, k ≤ l → dotN m S P F G k < m
  | 0, _ => hm
  | k + 1, h => by
    have h1 := dot_lt hm hS hP hF hG k (by omega)
    have h2 := hP _ _ (hF k (by omega)) (hG k (by omega))
    refine hS _ ?_
    have h3 : (dotN m S P F G k + 1) * m ≤ m * m := Nat.mul_le_mul_right _ (by omega)
    rw [Nat.succ_mul] at h3
    omega
theorem dot_comm (hP : ∀ x y, x < m → y < m → P (x * m + y) = P (y * m + x)) (hF : ∀ i, i < l → F i < m) (hG : ∀ i, i < l → G i < m) : ∀ k, k ≤ l → dotN m S P F G k = dotN m S P G F k
  | 0, _ => rfl
  | k + 1, h => by
    unfold dotN
    rw [dot_comm hP hF hG k (by omega), hP _ _ (hF k (by omega)) (hG k (by omega))]
theorem dot_congr {F' G' : Nat → Nat} (hF : ∀ i, i < l → F i = F' i) (hG : ∀ i, i < l → G i = G' i) : ∀ k, k ≤ l → dotN m S P F G k = dotN m S P F' G' k
  | 0, _ => rfl
  | k + 1, h => by
    unfold dotN
    rw [dot_congr hF hG k (by omega), hF k (by omega), hG k (by omega)]
theorem num_lt (hF : ∀ i, i < l → F i < m) : ∀ k, k ≤ l → numN m F k < m ^ k
  | 0, _ => by simp [numN]
  | k + 1, h => by
    have h1 := num_lt hF k (by omega)
    have h2 := hF k (by omega)
    have h3 : (numN m F k + 1) * m ≤ m ^ k * m := Nat.mul_le_mul_right _ h1
    rw [Nat.succ_mul] at h3
    show numN m F k * m + F k < m ^ (k + 1)
    rw [Nat.pow_succ]
    omega
theorem vec_lt (hm : 1 ≤ m) (n k i : Nat) : vecF m n k i < m := Nat.mod_lt _ hm
end

/-- The numbers of a list are elements. -/
theorem all_data {m : Nat} {Z : List Int} (h : allB (m : Int) Z = true) : (∀ i, i < Z.length → tabOf Z i < m) ∧ lstF (tabOf Z) Z.length = Z := by
  have h5 : ∀ i, i < Z.length → Z[i]?.getD 0 = (tabOf Z i : Int) ∧ tabOf Z i < m := fun i hi => by
    have h6 := of_decide_eq_true (of_decide_eq_true h i hi)
    have h7 : tabOf Z i = (Z[i]?.getD 0).toNat := rfl
    omega
  exact ⟨fun i hi => (h5 i hi).2, lstF_of fun i hi => (h5 i hi).1⟩

theorem min_step3 {m k : Nat} (hm : 1 ≤ m) : min (min (m ^ k) 301 * m) 301 = min (m ^ (k + 1)) 301 := by
  rw [Nat.pow_succ]
  rcases Nat.le_total (m ^ k) 301 with h | h
  · rw [Nat.min_eq_left h]
  · rw [Nat.min_eq_right h]
    have h1 : 301 ≤ 301 * m := Nat.le_mul_of_pos_right _ hm
    have h2 : 301 ≤ m ^ k * m := Nat.le_trans h (Nat.le_mul_of_pos_right _ hm)
    rw [Nat.min_eq_right h1, Nat.min_eq_right h2]

/-- Lists that can be read. -/
def Rws (w : World) (D : Nat) (v : Value) (RR : List (List Int)) : Prop := ∃ A cap, v = .slice A RR.length cap ∧ ∀ (i : Nat) (Z : List Int), RR[i]? = some Z → ∃ (g off : Nat) (B : Option Addr) (c : Nat), A = some ⟨g, off, none⟩ ∧ g < D ∧ w.cell? ⟨g, off + i, none⟩ = some (.slice B Z.length c) ∧ Z.length ≤ c ∧ Z.length ≤ 9223372036854775807 ∧ Ints w D B Z.length Z
theorem Rws.keep {w w' : World} {D : Nat} {v : Value} {RR : List (List Int)} (h : Rws w D v RR) (hk : ∀ p : Addr, p.block < D → w'.cell? p = w.cell? p) : Rws w' D v RR := by
  obtain ⟨A, cap, e, h3⟩ := h
  refine ⟨A, cap, e, fun i Z hZ => ?_⟩
  obtain ⟨g, off, B, c, e0, h2, e1, e2, e3, e4⟩ := h3 i Z hZ
  exact ⟨g, off, B, c, e0, h2, (hk ⟨g, off + i, none⟩ h2).trans e1, e2, e3, e4.keep hk⟩
theorem Rws.below {w w' : World} {D B : Nat} {v : Value} {RR : List (List Int)} (h : Rws w D v RR) (hb : Below B w w') (hD : D ≤ B) : Rws w' D v RR := h.keep fun p hp => hb.cell (by omega)
theorem Rws.more {w : World} {D D' : Nat} {v : Value} {RR : List (List Int)} (h : Rws w D v RR) (hD : D ≤ D') : Rws w D' v RR := by
  obtain ⟨A, cap, e, h3⟩ := h
  refine ⟨A, cap, e, fun i Z hZ => ?_⟩
  obtain ⟨g, off, B, c, e0, h2, e1, e2, e3, e4⟩ := h3 i Z hZ
  exact ⟨g, off, B, c, e0, by omega, e1, e2, e3, e4.more hD⟩
theorem Rws.next {w w' : World} {v : Value} {RR : List (List Int)} (h : Rws w w.heap.size v RR) (hb : Below w.heap.size w w') : Rws w' w'.heap.size v RR := (h.below hb (Nat.le_refl _)).more hb.size

/-- Rows of a space. -/
def rowOk (n N : Int) (Z : List Int) : Bool := decide ((Z.length : Int) = N) && allB n Z
noncomputable def spcB (n o : Int) (X Y : List Int) (N : Int) (RR : List (List Int)) : Bool := validB n o X Y && (decide (1 ≤ N ∧ N ≤ 4 ∧ n.toNat ^ N.toNat ≤ 300 ∧ RR.length ≤ 300) && decide (∀ i, i < RR.length → rowOk n N (RR[i]?.getD []) = true))
section
variable {n o N : Int} {X Y : List Int} {RR : List (List Int)}
theorem spc_v (h : validB n o X Y = false) : spcB n o X Y N RR = false := by unfold spcB; rw [h]; rfl
theorem spc_c (h : ¬ (1 ≤ N ∧ N ≤ 4 ∧ n.toNat ^ N.toNat ≤ 300 ∧ RR.length ≤ 300)) : spcB n o X Y N RR = false := by unfold spcB; rw [decide_eq_false h]; simp
theorem spc_r {i : Nat} (hi : i < RR.length) (h : rowOk n N (RR[i]?.getD []) = false) : spcB n o X Y N RR = false := by
  unfold spcB
  rw [decide_eq_false (p := ∀ i, i < RR.length → rowOk n N (RR[i]?.getD []) = true) (fun g => by have := g i hi; rw [h] at this; cases this)]
  simp
theorem spc_yes (h1 : validB n o X Y = true) (h2 : 1 ≤ N ∧ N ≤ 4 ∧ n.toNat ^ N.toNat ≤ 300 ∧ RR.length ≤ 300) (h3 : ∀ i, i < RR.length → rowOk n N (RR[i]?.getD []) = true) : spcB n o X Y N RR = true := by unfold spcB; rw [h1, decide_eq_true h2, decide_eq_true h3]; rfl
theorem spc_data (h : spcB n o X Y N RR = true) : validB n o X Y = true ∧ (1 ≤ N ∧ N ≤ 4 ∧ n.toNat ^ N.toNat ≤ 300 ∧ RR.length ≤ 300) ∧ ∀ (i : Nat) (Z : List Int), RR[i]? = some Z → (Z.length : Int) = N ∧ allB n Z = true := by
  unfold spcB at h
  rw [Bool.and_eq_true, Bool.and_eq_true, decide_eq_true_eq, decide_eq_true_eq] at h
  refine ⟨h.1, h.2.1, fun i Z hZ => ?_⟩
  have hi : i < RR.length := (List.getElem?_eq_some_iff.1 hZ).1
  have := h.2.2 i hi
  rw [hZ] at this
  unfold rowOk at this
  rw [Bool.and_eq_true, decide_eq_true_eq] at this
  exact this
theorem spc_one {Z : List Int} {i : Nat} (h : RR[i]? = some Z) : RR[i]?.getD [] = Z := by rw [h]; rfl
theorem rowOk_len {Z : List Int} (h : ¬ (Z.length : Int) = N) : rowOk n N Z = false := by unfold rowOk; rw [decide_eq_false h]; rfl
theorem rowOk_all {Z : List Int} (h : allB n Z = false) : rowOk n N Z = false := by unfold rowOk; rw [h]; simp
theorem rowOk_yes {Z : List Int} (h1 : (Z.length : Int) = N) (h2 : allB n Z = true) : rowOk n N Z = true := by unfold rowOk; rw [decide_eq_true h1, h2]; rfl
end

/-- What DotOf and NumberOf hand back. -/
noncomputable def dtB (n o : Int) (X Y Z V : List Int) : Bool := decide (Z.length = V.length) && (validB n o X Y && (allB n Z && allB n V))
noncomputable def dtV (n o : Int) (X Y Z V : List Int) : Int := ifV (dtB n o X Y Z V = true) (dotN n.toNat (tabOf X) (tabOf Y) (tabOf Z) (tabOf V) Z.length : Nat)
end Go.Proofs.Ytahdkdpliphcnaa



/- DotOf of both sides. -/
namespace Go.Proofs.Ytahdkdpliphcnaa
open Go.RowKit
set_option maxRecDepth 100000

set_option maxHeartbeats 4000000 in
theorem dot_any (F G : Nat → Nat) (C D : Option Addr) (l q1 q2 : Nat) (m e b1 o1 la ca b2 o2 lb cb : Nat) (S P : Nat → Nat) (w : World) (hr : RingAt w m e b1 o1 la ca b2 o2 lb cb S P) (hF : Ints w w.heap.size C l (lstF F l)) (hG : Ints w w.heap.size D l (lstF G l)) (hl : l ≤ 9223372036854775807) (hlF : ∀ i, i < l → F i < m) (hlG : ∀ i, i < l → G i < m) :
    Calls Try.prog 48 #[.agg #[.int .i64 m, .int .i64 e, .slice (some ⟨b1, o1, none⟩) la ca, .slice (some ⟨b2, o2, none⟩) lb cb], .slice C l q1, .slice D l q2] w fun e' w' => e' = .returned (.int .i64 (dotN m S P F G l : Nat)) ∧ Below w.heap.size w w' := by
  have HF := Lib.hid hlF
  have HG := Lib.hid hlG
  have HE := Lib.hid (dot_lt (m := m) (S := S) (P := P) (F := F) (G := G) (l := l) hr.hm (fun k hk => (hr.ts.2 k hk).2) (fun x y hx hy => hr.tp.lt hx hy) hlF hlG)
  have hps := Lib.hid (show ∀ x y, x < m → y < m → P (x * m + y) < m from fun x y hx hy => hr.tp.lt hx hy)
  have b0 : Below w.heap.size w (w.alloc (.cells #[.int .i64 m, .int .i64 e, .slice (some ⟨b1, o1, none⟩) la ca, .slice (some ⟨b2, o2, none⟩) lb cb] 27)) := (Below.refl _ _).alloc (Nat.le_refl _) _
  have R0 := Lib.hid (hr.next b0)
  have F0 := Lib.hid (hF.next b0)
  have G0 := Lib.hid (hG.next b0)
  have B0 := Lib.hid b0
  clear hr hF hG b0 hlF hlG
  go_enter Try.func48, Try.ntmps48
  go_wp2
  go_loopg [7, 11] l (fun g s i wr => ∃ k : Nat, k ≤ l ∧ l ≤ k + g ∧ i = .int .i64 k ∧ s = .int .i64 (dotN m S P F G k : Nat) ∧ Below (w.heap.size + 1) (w.alloc (.cells #[.int .i64 m, .int .i64 e, .slice (some ⟨b1, o1, none⟩) la ca, .slice (some ⟨b2, o2, none⟩) lb cb] 27)) wr)
  case atStart => exact ⟨0, Nat.zero_le _, by omega, rfl, rfl, Below.refl _ _⟩
  case round =>
    obtain ⟨k, hk, hg, rfl, rfl, hb⟩ := hrel
    obtain ⟨c0, c1, c2, c3, hs⟩ := box4 hb
    have X1 := Lib.hid hb
    have hb' : Below (w.alloc (.cells #[.int .i64 m, .int .i64 e, .slice (some ⟨b1, o1, none⟩) la ca, .slice (some ⟨b2, o2, none⟩) lb cb] 27)).heap.size (w.alloc (.cells #[.int .i64 m, .int .i64 e, .slice (some ⟨b1, o1, none⟩) la ca, .slice (some ⟨b2, o2, none⟩) lb cb] 27)) wr := by simpa using hb
    have R1 := Lib.hid (R0.out.next hb')
    have F1 := Lib.hid (F0.out.below hb' (by simp))
    have G1 := Lib.hid (G0.out.below hb' (by simp))
    clear hb hb'
    by_cases hlt : k < l
    · obtain ⟨b, off, rfl, hbb⟩ := lstF_addr F1.out (by omega)
      have hc0 := lstF_cell F1.out (i := k) (by omega)
      obtain ⟨b', off', rfl, hbb'⟩ := lstF_addr G1.out (by omega)
      have hc0' := lstF_cell G1.out (i := k) (by omega)
      have hev := HE.out k (by omega)
      have hfj := HF.out k (by omega)
      have hgj := HG.out k (by omega)
      have hpp := hps.out _ _ hfj hgj
      have ES := Lib.hid (show dotN m S P F G (k + 1) = S (dotN m S P F G k * m + P (F k * m + G k)) from rfl)
      obtain ⟨V, hV⟩ : ∃ V, dotN m S P F G k = V := ⟨_, rfl⟩
      rw [hV] at hev
      rw [hV]
      have ES' := Lib.hid (show dotN m S P F G (k + 1) = S (V * m + P (F k * m + G k)) by rw [ES.out, hV])
      clear hV
      go_wp2_with (fail)
      refine wp_region_ext (by kernel_rfl) (by kernel_rfl) ?_
      repeat (go_big_quiet_step (((first
        | (go_at_call 82; ((with_reducible refine calls_ext (product_any (F k) (G k) m e b1 o1 la ca b2 o2 lb cb S P _ (R1.out.ext _) hfj hgj))))
        | (go_at_call 81; ((with_reducible refine calls_ext (sum_any V (P (F k * m + G k)) m e b1 o1 la ca b2 o2 lb cb S P _ (R1.out.ext _) hev hpp))))))))
      refine wpQuiet_nil ?_
      intro w3 hb3
      have B3 := Lib.hid hb3
      clear hb3
      go_wp2
      go_roundg (l - (k + 1))
      case measure => omega
      case rel => exact ⟨k + 1, by omega, by omega, by go_num, by rw [ES'.out], X1.out.trans (B3.out.mono (by omega))⟩
    · have hkl : k = l := by omega
      subst hkl
      go_wp2
      go_ret
      exact ⟨rfl, below_of_box X1.out⟩

set_option maxHeartbeats 4000000 in
theorem l10Dot_any (F G : Nat → Nat) (C D : Option Addr) (l q1 q2 : Nat) (m e b1 o1 la ca b2 o2 lb cb : Nat) (S P : Nat → Nat) (w : World) (hr : RingAt w m e b1 o1 la ca b2 o2 lb cb S P) (hF : Ints w w.heap.size C l (lstF F l)) (hG : Ints w w.heap.size D l (lstF G l)) (hl : l ≤ 9223372036854775807) (hlF : ∀ i, i < l → F i < m) (hlG : ∀ i, i < l → G i < m) :
    Calls Try.prog 45 #[.agg #[.int .i64 m, .int .i64 e, .slice (some ⟨b1, o1, none⟩) la ca, .slice (some ⟨b2, o2, none⟩) lb cb], .slice C l q1, .slice D l q2] w fun e' w' => e' = .returned (.int .i64 (dotN m S P F G l : Nat)) ∧ Below w.heap.size w w' := by
  have HF := Lib.hid hlF
  have HG := Lib.hid hlG
  have HE := Lib.hid (dot_lt (m := m) (S := S) (P := P) (F := F) (G := G) (l := l) hr.hm (fun k hk => (hr.ts.2 k hk).2) (fun x y hx hy => hr.tp.lt hx hy) hlF hlG)
  have hps := Lib.hid (show ∀ x y, x < m → y < m → P (x * m + y) < m from fun x y hx hy => hr.tp.lt hx hy)
  have b0 : Below w.heap.size w (w.alloc (.cells #[.int .i64 m, .int .i64 e, .slice (some ⟨b1, o1, none⟩) la ca, .slice (some ⟨b2, o2, none⟩) lb cb] 27)) := (Below.refl _ _).alloc (Nat.le_refl _) _
  have R0 := Lib.hid (hr.next b0)
  have F0 := Lib.hid (hF.next b0)
  have G0 := Lib.hid (hG.next b0)
  have B0 := Lib.hid b0
  clear hr hF hG b0 hlF hlG
  go_enter Try.func45, Try.ntmps45
  go_wp2
  go_loopg [7, 11] l (fun g s i wr => ∃ k : Nat, k ≤ l ∧ l ≤ k + g ∧ i = .int .i64 k ∧ s = .int .i64 (dotN m S P F G k : Nat) ∧ Below (w.heap.size + 1) (w.alloc (.cells #[.int .i64 m, .int .i64 e, .slice (some ⟨b1, o1, none⟩) la ca, .slice (some ⟨b2, o2, none⟩) lb cb] 27)) wr)
  case atStart => exact ⟨0, Nat.zero_le _, by omega, rfl, rfl, Below.refl _ _⟩
  case round =>
    obtain ⟨k, hk, hg, rfl, rfl, hb⟩ := hrel
    obtain ⟨c0, c1, c2, c3, hs⟩ := box4 hb
    have X1 := Lib.hid hb
    have hb' : Below (w.alloc (.cells #[.int .i64 m, .int .i64 e, .slice (some ⟨b1, o1, none⟩) la ca, .slice (some ⟨b2, o2, none⟩) lb cb] 27)).heap.size (w.alloc (.cells #[.int .i64 m, .int .i64 e, .slice (some ⟨b1, o1, none⟩) la ca, .slice (some ⟨b2, o2, none⟩) lb cb] 27)) wr := by simpa using hb
    have R1 := Lib.hid (R0.out.next hb')
    have F1 := Lib.hid (F0.out.below hb' (by simp))
    have G1 := Lib.hid (G0.out.below hb' (by simp))
    clear hb hb'
    by_cases hlt : k < l
    · obtain ⟨b, off, rfl, hbb⟩ := lstF_addr F1.out (by omega)
      have hc0 := lstF_cell F1.out (i := k) (by omega)
      obtain ⟨b', off', rfl, hbb'⟩ := lstF_addr G1.out (by omega)
      have hc0' := lstF_cell G1.out (i := k) (by omega)
      have hev := HE.out k (by omega)
      have hfj := HF.out k (by omega)
      have hgj := HG.out k (by omega)
      have hpp := hps.out _ _ hfj hgj
      have ES := Lib.hid (show dotN m S P F G (k + 1) = S (dotN m S P F G k * m + P (F k * m + G k)) from rfl)
      obtain ⟨V, hV⟩ : ∃ V, dotN m S P F G k = V := ⟨_, rfl⟩
      rw [hV] at hev
      rw [hV]
      have ES' := Lib.hid (show dotN m S P F G (k + 1) = S (V * m + P (F k * m + G k)) by rw [ES.out, hV])
      clear hV
      go_wp2_with (fail)
      refine wp_region_ext (by kernel_rfl) (by kernel_rfl) ?_
      repeat (go_big_quiet_step (((first
        | (go_at_call 60; ((with_reducible refine calls_ext (l1Mul_any (F k) (G k) m e b1 o1 la ca b2 o2 lb cb S P _ (R1.out.ext _) hfj hgj))))
        | (go_at_call 61; ((with_reducible refine calls_ext (l1Add_any V (P (F k * m + G k)) m e b1 o1 la ca b2 o2 lb cb S P _ (R1.out.ext _) hev hpp))))))))
      refine wpQuiet_nil ?_
      intro w3 hb3
      have B3 := Lib.hid hb3
      clear hb3
      go_wp2
      go_roundg (l - (k + 1))
      case measure => omega
      case rel => exact ⟨k + 1, by omega, by omega, by go_num, by rw [ES'.out], X1.out.trans (B3.out.mono (by omega))⟩
    · have hkl : k = l := by omega
      subst hkl
      go_wp2
      go_ret
      exact ⟨rfl, below_of_box X1.out⟩

section
variable {n o : Int} {X Y Z V : List Int}
theorem dtB_len (h : ¬ Z.length = V.length) : dtB n o X Y Z V = false := by unfold dtB; rw [decide_eq_false h]; rfl
theorem dtB_v (h : validB n o X Y = false) : dtB n o X Y Z V = false := by unfold dtB; rw [h]; simp
theorem dtB_a (h : allB n Z = false) : dtB n o X Y Z V = false := by unfold dtB; rw [h]; simp
theorem dtB_b (h : allB n V = false) : dtB n o X Y Z V = false := by unfold dtB; rw [h]; simp
theorem dtB_yes (h1 : Z.length = V.length) (h2 : validB n o X Y = true) (h3 : allB n Z = true) (h4 : allB n V = true) : dtB n o X Y Z V = true := by unfold dtB; rw [decide_eq_true h1, h2, h3, h4]; rfl
theorem dtV_no (h : dtB n o X Y Z V = false) : dtV n o X Y Z V = -1 := ifV_no (fun g => by rw [h] at g; cases g)
theorem dtV_yes (h : dtB n o X Y Z V = true) : dtV n o X Y Z V = (dotN n.toNat (tabOf X) (tabOf Y) (tabOf Z) (tabOf V) Z.length : Nat) := ifV_yes h
end

set_option maxHeartbeats 8000000 in
theorem dotOf_any (n o : Int) (A B C D : Option Addr) (la ca lb cb l1 q1 l2 q2 : Nat) (X Y Z V : List Int) (w : World) (hX : Ints w w.heap.size A la X) (hY : Ints w w.heap.size B lb Y) (hC : Ints w w.heap.size C l1 Z) (hD : Ints w w.heap.size D l2 V) (hla : la ≤ 9223372036854775807) (hlb : lb ≤ 9223372036854775807) (hl1 : l1 ≤ 9223372036854775807) (hl2 : l2 ≤ 9223372036854775807) (hca : la ≤ ca) (hcb : lb ≤ cb) :
    Calls Try.prog 18 #[.agg #[.int .i64 n, .int .i64 o, .slice A la ca, .slice B lb cb], .slice C l1 q1, .slice D l2 q2] w fun e' w' => e' = .returned (.int .i64 (dtV n o X Y Z V)) ∧ Below w.heap.size w w' := by
  have hZ := hC.1
  have hV := hD.1
  obtain ⟨W, hW⟩ : ∃ W, w.alloc (.cells #[.int .i64 n, .int .i64 o, .slice A la ca, .slice B lb cb] 27) = W := ⟨_, rfl⟩
  have k0 : Blk W w.heap.size 27 #[.int .i64 n, .int .i64 o, .slice A la ca, .slice B lb cb] := by subst hW; exact Blk.new w _ _
  have b0 : Below w.heap.size w W := by subst hW; exact (Below.refl _ _).alloc (Nat.le_refl _) _
  have HX := Lib.hid (hX.next b0)
  have HY := Lib.hid (hY.next b0)
  have HC := Lib.hid (hC.next b0)
  have HD := Lib.hid (hD.next b0)
  have HX0 := Lib.hid hX
  have HY0 := Lib.hid hY
  have K0 := Lib.hid k0
  have B0 := Lib.hid b0
  have HW := Lib.hid hW
  have HH := Lib.hid (show wrap64 (n - 1) = hiOf n from rfl)
  have hs0 := k0.lt
  obtain ⟨c0, c1', c2', c3⟩ := blk4 k0
  clear hX hY hC hD k0 b0 hW
  by_cases hll : l1 = l2
  rotate_left
  · have hz := Lib.hid (dtV_no (dtB_len (n := n) (o := o) (X := X) (Y := Y) (Z := Z) (V := V) (by omega)))
    have t1 : ((l1 : Int) != (l2 : Int)) = true := by rw [bne_iff_ne]; omega
    have t2 : ((l1 : Int) == (l2 : Int)) = false := by rw [beq_eq_false_iff_ne]; omega
    go_enter Try.func18, Try.ntmps18
    go_wp2_with (fail)
    rw [HW.out]
    go_wp2
    go_ret
    exact ⟨ret_int hz.out.symm, B0.out⟩
  subst hll
  have t1 : ((l1 : Int) != (l1 : Int)) = false := by simp
  cases hv : validB n o X Y
  · have hz := Lib.hid (dtV_no (dtB_v (Z := Z) (V := V) hv))
    go_enter Try.func18, Try.ntmps18
    go_wp2_with (fail)
    rw [HW.out]
    go_wp2_with (first
    | (go_at_call 46; (with_reducible refine (valid_any _ _ _ _ _ _ _ _ X Y _ HX.out HY.out hla hlb hca hcb).mono ?_); rintro e1 w1 ⟨rfl, hb1⟩; rw [hv]; have K1 := Lib.hid (K0.out.next hb1); have B1 := Lib.hid (below_step B0.out hb1); have C1 := Lib.hid (HC.out.next hb1); have D1 := Lib.hid (HD.out.next hb1); clear hb1; clear c0 c1' c2' c3; obtain ⟨c0, c1', c2', c3⟩ := blk4 K1.out)
    | fail)
    go_ret
    exact ⟨ret_int hz.out.symm, B1.out⟩
  cases ha : allB n Z
  · have hz := Lib.hid (dtV_no (dtB_a (o := o) (X := X) (Y := Y) (V := V) ha))
    go_enter Try.func18, Try.ntmps18
    go_wp2_with (fail)
    rw [HW.out]
    go_wp2_with (first
    | (go_at_call 46; (with_reducible refine (valid_any _ _ _ _ _ _ _ _ X Y _ HX.out HY.out hla hlb hca hcb).mono ?_); rintro e1 w1 ⟨rfl, hb1⟩; rw [hv]; have K1 := Lib.hid (K0.out.next hb1); have B1 := Lib.hid (below_step B0.out hb1); have C1 := Lib.hid (HC.out.next hb1); have D1 := Lib.hid (HD.out.next hb1); clear hb1; clear c0 c1' c2' c3; obtain ⟨c0, c1', c2', c3⟩ := blk4 K1.out)
    | (go_at_call 47; (with_reducible refine (hasAll_any _ _ _ _ C _ _ _ _ l1 _ Z _ C1.out hl1).mono ?_); rintro e2 w2 ⟨rfl, hb2⟩; rw [ha]; have K2 := Lib.hid (K1.out.next hb2); have B2 := Lib.hid (below_step B1.out hb2); have C2 := Lib.hid (C1.out.next hb2); have D2 := Lib.hid (D1.out.next hb2); clear hb2 C1; clear c0 c1' c2' c3; obtain ⟨c0, c1', c2', c3⟩ := blk4 K2.out)
    | fail)
    go_ret
    exact ⟨ret_int hz.out.symm, B2.out⟩
  cases hb : allB n V
  · have hz := Lib.hid (dtV_no (dtB_b (o := o) (X := X) (Y := Y) (Z := Z) hb))
    go_enter Try.func18, Try.ntmps18
    go_wp2_with (fail)
    rw [HW.out]
    go_wp2_with (first
    | (go_at_call 46; (with_reducible refine (valid_any _ _ _ _ _ _ _ _ X Y _ HX.out HY.out hla hlb hca hcb).mono ?_); rintro e1 w1 ⟨rfl, hb1⟩; rw [hv]; have K1 := Lib.hid (K0.out.next hb1); have B1 := Lib.hid (below_step B0.out hb1); have C1 := Lib.hid (HC.out.next hb1); have D1 := Lib.hid (HD.out.next hb1); clear hb1; clear c0 c1' c2' c3; obtain ⟨c0, c1', c2', c3⟩ := blk4 K1.out)
    | (go_at_call 47; (with_reducible refine (hasAll_any _ _ _ _ C _ _ _ _ l1 _ Z _ C1.out hl1).mono ?_); rintro e2 w2 ⟨rfl, hb2⟩; rw [ha]; have K2 := Lib.hid (K1.out.next hb2); have B2 := Lib.hid (below_step B1.out hb2); have C2 := Lib.hid (C1.out.next hb2); have D2 := Lib.hid (D1.out.next hb2); clear hb2 C1; clear c0 c1' c2' c3; obtain ⟨c0, c1', c2', c3⟩ := blk4 K2.out)
    | (go_at_call 47; (with_reducible refine (hasAll_any _ _ _ _ D _ _ _ _ _ _ V _ D2.out hl2).mono ?_); rintro e3 w3 ⟨rfl, hb3⟩; rw [hb]; have K3 := Lib.hid (K2.out.next hb3); have B3 := Lib.hid (below_step B2.out hb3); have C3 := Lib.hid (C2.out.next hb3); have D3 := Lib.hid (D2.out.next hb3); clear hb3 C2; clear c0 c1' c2' c3; obtain ⟨c0, c1', c2', c3⟩ := blk4 K3.out)
    | fail)
    go_ret
    exact ⟨ret_int hz.out.symm, B3.out⟩
  have hz := Lib.hid (dtV_yes (dtB_yes (by omega) hv ha hb))
  obtain ⟨m, e, b1, o1, b2, o2, rfl, rfl, rfl, rfl, hr, _, _, _, _, _⟩ := valid_data hv HX0.out HY0.out hca hcb
  have HR := Lib.hid (hr.next B0.out)
  obtain ⟨f1, f2⟩ := all_data ha
  obtain ⟨g1, g2⟩ := all_data hb
  rw [hZ] at f1 f2
  rw [hV] at g1 g2
  have F2 := Lib.hid f2
  have G2 := Lib.hid g2
  have F1' := Lib.hid f1
  have G1' := Lib.hid g1
  clear hr f1 f2 g1 g2
  go_enter Try.func18, Try.ntmps18
  go_wp2_with (fail)
  rw [HW.out]
  go_wp2_with (first
    | (go_at_call 46; (with_reducible refine (valid_any _ _ _ _ _ _ _ _ X Y _ HX.out HY.out hla hlb hca hcb).mono ?_); rintro e1 w1 ⟨rfl, hb1⟩; rw [hv]; have K1 := Lib.hid (K0.out.next hb1); have B1 := Lib.hid (below_step B0.out hb1); have C1 := Lib.hid (HC.out.next hb1); have D1 := Lib.hid (HD.out.next hb1); have R1 := Lib.hid (HR.out.next hb1); clear hb1; clear c0 c1' c2' c3; obtain ⟨c0, c1', c2', c3⟩ := blk4 K1.out)
    | (go_at_call 47; (with_reducible refine (hasAll_any _ _ _ _ C _ _ _ _ l1 _ Z _ C1.out hl1).mono ?_); rintro e2 w2 ⟨rfl, hb2⟩; rw [ha]; have K2 := Lib.hid (K1.out.next hb2); have B2 := Lib.hid (below_step B1.out hb2); have C2 := Lib.hid (C1.out.next hb2); have D2 := Lib.hid (D1.out.next hb2); have R2 := Lib.hid (R1.out.next hb2); clear hb2 C1; clear c0 c1' c2' c3; obtain ⟨c0, c1', c2', c3⟩ := blk4 K2.out)
    | (go_at_call 47; (with_reducible refine (hasAll_any _ _ _ _ D _ _ _ _ _ _ V _ D2.out hl2).mono ?_); rintro e3 w3 ⟨rfl, hb3⟩; rw [hb]; have K3 := Lib.hid (K2.out.next hb3); have B3 := Lib.hid (below_step B2.out hb3); have C3 := Lib.hid (C2.out.next hb3); have D3 := Lib.hid (D2.out.next hb3); have R3 := Lib.hid (R2.out.next hb3); clear hb3 C2; clear c0 c1' c2' c3; obtain ⟨c0, c1', c2', c3⟩ := blk4 K3.out)
    | (go_at_call 48; (with_reducible refine (dot_any (tabOf Z) (tabOf V) C D l1 _ _ m e b1 o1 la ca b2 o2 lb cb (tabOf X) (tabOf Y) _ R3.out (by rw [F2.out]; exact C3.out) (by rw [G2.out]; exact D3.out) hl1 F1'.out G1'.out).mono ?_); rintro e4 w4 ⟨rfl, hb4⟩; have B4 := Lib.hid (below_step B3.out hb4); clear hb4)
    | fail)
  go_ret
  exact ⟨ret_int (by rw [hz.out, hZ]; rfl), B4.out⟩

theorem elB_valid {n o : Int} {X Y Z : List Int} (hv : validB n o X Y = true) : elB (hiOf n) Z = allB n Z := by rw [hi_valid hv, elB_allB]

set_option maxHeartbeats 8000000 in
theorem sdotOf_any (n o : Int) (A B C D : Option Addr) (la ca lb cb l1 q1 l2 q2 : Nat) (X Y Z V : List Int) (w : World) (hX : Ints w w.heap.size A la X) (hY : Ints w w.heap.size B lb Y) (hC : Ints w w.heap.size C l1 Z) (hD : Ints w w.heap.size D l2 V) (hla : la ≤ 9223372036854775807) (hlb : lb ≤ 9223372036854775807) (hl1 : l1 ≤ 9223372036854775807) (hl2 : l2 ≤ 9223372036854775807) (hca : la ≤ ca) (hcb : lb ≤ cb) :
    Calls Try.prog 17 #[.agg #[.int .i64 n, .int .i64 o, .slice A la ca, .slice B lb cb], .slice C l1 q1, .slice D l2 q2] w fun e' w' => e' = .returned (.int .i64 (dtV n o X Y Z V)) ∧ Below w.heap.size w w' := by
  have hZ := hC.1
  have hV := hD.1
  obtain ⟨W, hW⟩ : ∃ W, w.alloc (.cells #[.int .i64 n, .int .i64 o, .slice A la ca, .slice B lb cb] 27) = W := ⟨_, rfl⟩
  have k0 : Blk W w.heap.size 27 #[.int .i64 n, .int .i64 o, .slice A la ca, .slice B lb cb] := by subst hW; exact Blk.new w _ _
  have b0 : Below w.heap.size w W := by subst hW; exact (Below.refl _ _).alloc (Nat.le_refl _) _
  have HX := Lib.hid (hX.next b0)
  have HY := Lib.hid (hY.next b0)
  have HC := Lib.hid (hC.next b0)
  have HD := Lib.hid (hD.next b0)
  have HX0 := Lib.hid hX
  have HY0 := Lib.hid hY
  have K0 := Lib.hid k0
  have B0 := Lib.hid b0
  have HW := Lib.hid hW
  have HH := Lib.hid (show wrap64 (n - 1) = hiOf n from rfl)
  have hs0 := k0.lt
  obtain ⟨c0, c1', c2', c3⟩ := blk4 k0
  clear hX hY hC hD k0 b0 hW
  cases ha : elB (hiOf n) Z
  · have hz := Lib.hid (show dtV n o X Y Z V = -1 by
      refine dtV_no ?_
      cases hv : validB n o X Y
      · exact dtB_v hv
      · exact dtB_a (by rw [← elB_valid hv]; exact ha))
    go_enter Try.func17, Try.ntmps17
    go_wp2_with (fail)
    rw [HW.out]
    go_wp2_with (first
    | (go_at_call 43; (with_reducible refine (l1Elements_any _ _ C l1 _ Z _ _ HH.out HC.out hl1).mono ?_); rintro e1 w1 ⟨rfl, rfl⟩; rw [ha]; have HCx := Lib.hid HC.out; clear HC)
    | fail)
    go_ret
    exact ⟨ret_int hz.out.symm, B0.out⟩
  cases hb : elB (hiOf n) V
  · have hz := Lib.hid (show dtV n o X Y Z V = -1 by
      refine dtV_no ?_
      cases hv : validB n o X Y
      · exact dtB_v hv
      · exact dtB_b (by rw [← elB_valid hv]; exact hb))
    go_enter Try.func17, Try.ntmps17
    go_wp2_with (fail)
    rw [HW.out]
    go_wp2_with (first
    | (go_at_call 43; (with_reducible refine (l1Elements_any _ _ C l1 _ Z _ _ HH.out HC.out hl1).mono ?_); rintro e1 w1 ⟨rfl, rfl⟩; rw [ha]; have HCx := Lib.hid HC.out; clear HC)
    | (go_at_call 43; (with_reducible refine (l1Elements_any _ _ D _ _ V _ _ HH.out HD.out hl2).mono ?_); rintro e2 w2 ⟨rfl, rfl⟩; rw [hb]; have HDx := Lib.hid HD.out; clear HD)
    | fail)
    go_ret
    exact ⟨ret_int hz.out.symm, B0.out⟩
  by_cases hll : l1 = l2
  rotate_left
  · have hz := Lib.hid (dtV_no (dtB_len (n := n) (o := o) (X := X) (Y := Y) (Z := Z) (V := V) (by omega)))
    have t1 : ((l1 : Int) != (l2 : Int)) = true := by rw [bne_iff_ne]; omega
    have t2 : ((l1 : Int) == (l2 : Int)) = false := by rw [beq_eq_false_iff_ne]; omega
    go_enter Try.func17, Try.ntmps17
    go_wp2_with (fail)
    rw [HW.out]
    go_wp2_with (first
    | (go_at_call 43; (with_reducible refine (l1Elements_any _ _ C l1 _ Z _ _ HH.out HC.out hl1).mono ?_); rintro e1 w1 ⟨rfl, rfl⟩; rw [ha]; have HCx := Lib.hid HC.out; clear HC)
    | (go_at_call 43; (with_reducible refine (l1Elements_any _ _ D _ _ V _ _ HH.out HD.out hl2).mono ?_); rintro e2 w2 ⟨rfl, rfl⟩; rw [hb]; have HDx := Lib.hid HD.out; clear HD)
    | fail)
    go_ret
    exact ⟨ret_int hz.out.symm, B0.out⟩
  subst hll
  have t1 : ((l1 : Int) != (l1 : Int)) = false := by simp
  cases hv : validB n o X Y
  · have hz := Lib.hid (dtV_no (dtB_v (Z := Z) (V := V) hv))
    go_enter Try.func17, Try.ntmps17
    go_wp2_with (fail)
    rw [HW.out]
    go_wp2_with (first
    | (go_at_call 43; (with_reducible refine (l1Elements_any _ _ C l1 _ Z _ _ HH.out HC.out hl1).mono ?_); rintro e1 w1 ⟨rfl, rfl⟩; rw [ha]; have HCx := Lib.hid HC.out; clear HC)
    | (go_at_call 43; (with_reducible refine (l1Elements_any _ _ D _ _ V _ _ HH.out HD.out hl2).mono ?_); rintro e2 w2 ⟨rfl, rfl⟩; rw [hb]; have HDx := Lib.hid HD.out; clear HD)
    | (go_at_call 44; (with_reducible refine (specValid_any _ _ _ _ _ _ _ _ X Y _ HX.out HY.out hla hlb hca hcb).mono ?_); rintro e3 w3 ⟨rfl, hb3⟩; rw [hv]; have K1 := Lib.hid (K0.out.next hb3); have B1 := Lib.hid (below_step B0.out hb3); clear hb3; clear c0 c1' c2' c3; obtain ⟨c0, c1', c2', c3⟩ := blk4 K1.out)
    | fail)
    go_ret
    exact ⟨ret_int hz.out.symm, B1.out⟩
  have ha' : allB n Z = true := by rw [← elB_valid hv]; exact ha
  have hb' : allB n V = true := by rw [← elB_valid hv]; exact hb
  have hz := Lib.hid (dtV_yes (dtB_yes (by omega) hv ha' hb'))
  obtain ⟨m, e, b1, o1, b2, o2, rfl, rfl, rfl, rfl, hr, _, _, _, _, _⟩ := valid_data hv HX0.out HY0.out hca hcb
  have HR := Lib.hid (hr.next B0.out)
  obtain ⟨f1, f2⟩ := all_data ha'
  obtain ⟨g1, g2⟩ := all_data hb'
  rw [hZ] at f1 f2
  rw [hV] at g1 g2
  have F2 := Lib.hid f2
  have G2 := Lib.hid g2
  have F1' := Lib.hid f1
  have G1' := Lib.hid g1
  clear hr f1 f2 g1 g2 ha' hb'
  go_enter Try.func17, Try.ntmps17
  go_wp2_with (fail)
  rw [HW.out]
  go_wp2_with (first
    | (go_at_call 43; (with_reducible refine (l1Elements_any _ _ C l1 _ Z _ _ HH.out HC.out hl1).mono ?_); rintro e1 w1 ⟨rfl, rfl⟩; rw [ha]; have HCx := Lib.hid HC.out; clear HC)
    | (go_at_call 43; (with_reducible refine (l1Elements_any _ _ D _ _ V _ _ HH.out HD.out hl2).mono ?_); rintro e2 w2 ⟨rfl, rfl⟩; rw [hb]; have HDx := Lib.hid HD.out; clear HD)
    | (go_at_call 44; (with_reducible refine (specValid_any _ _ _ _ _ _ _ _ X Y _ HX.out HY.out hla hlb hca hcb).mono ?_); rintro e3 w3 ⟨rfl, hb3⟩; rw [hv]; have K1 := Lib.hid (K0.out.next hb3); have B1 := Lib.hid (below_step B0.out hb3); have R3 := Lib.hid (HR.out.next hb3); have C3 := Lib.hid (HCx.out.next hb3); have D3 := Lib.hid (HDx.out.next hb3); clear hb3; clear c0 c1' c2' c3; obtain ⟨c0, c1', c2', c3⟩ := blk4 K1.out)
    | (go_at_call 45; (with_reducible refine (l10Dot_any (tabOf Z) (tabOf V) C D l1 _ _ m e b1 o1 la ca b2 o2 lb cb (tabOf X) (tabOf Y) _ R3.out (by rw [F2.out]; exact C3.out) (by rw [G2.out]; exact D3.out) hl1 F1'.out G1'.out).mono ?_); rintro e4 w4 ⟨rfl, hb4⟩; have B4 := Lib.hid (below_step B1.out hb4); clear hb4)
    | fail)
  go_ret
  exact ⟨ret_int (by rw [hz.out, hZ]; rfl), B4.out⟩

end Go.Proofs.Ytahdkdpliphcnaa



/- Codes: how many vectors there are; the space of a ring and a length. -/
namespace Go.Proofs.Ytahdkdpliphcnaa
open Go.RowKit
set_option maxRecDepth 100000

/-- A space as the program holds it. -/
abbrev spV (n o : Int) (A B : Option Addr) (la ca lb cb : Nat) (N : Int) : Array Value := #[.int .i64 n, .int .i64 o, .slice A la ca, .slice B lb cb, .int .i64 N]

theorem count_any (m : Nat) (o : Int) (A B : Option Addr) (la ca lb cb : Nat) (N : Int) (w : World) (hm' : m ≤ 16) (hN : 1 ≤ N ∧ N ≤ 4) :
    Calls Try.prog 73 #[.agg (spV m o A B la ca lb cb N)] w fun e' w' => e' = .returned (.int .i64 (m ^ N.toNat : Nat)) ∧ Below w.heap.size w w' := by
  obtain ⟨lf, rfl⟩ := Int.eq_ofNat_of_zero_le (show 0 ≤ N by omega)
  have hf : lf ≤ 4 := by omega
  rw [Int.toNat_natCast]
  obtain ⟨W, hW⟩ : ∃ W, w.alloc (.cells (spV m o A B la ca lb cb lf) 59) = W := ⟨_, rfl⟩
  have k0 : Blk W w.heap.size 59 (spV m o A B la ca lb cb lf) := by subst hW; exact Blk.new w _ _
  have b0 : Below w.heap.size w W := by subst hW; exact (Below.refl _ _).alloc (Nat.le_refl _) _
  obtain ⟨c0, c1, c2, c3, c4⟩ := cblk5 k0
  have HW := Lib.hid hW
  have B0 := Lib.hid b0
  clear hW b0 k0
  go_enter Try.func73, Try.ntmps73
  go_wp2_with (fail)
  rw [HW.out]
  go_wp2
  go_loopg [3, 6] 4 (fun g s i wr => wr = W ∧ ∃ k q : Nat, k ≤ lf ∧ lf ≤ k + g ∧ i = .int .i64 k ∧ s = .int .i64 q ∧ Hid (q = m ^ k))
  case atStart => exact ⟨rfl, 0, 1, Nat.zero_le _, by omega, rfl, rfl, Lib.hid (by simp)⟩
  case round =>
    obtain ⟨rfl, k, q, hk, hg, rfl, rfl, hq⟩ := hrel
    by_cases hlt : k < lf
    · have h1 : (q : Int) * (m : Int) = ((m ^ (k + 1) : Nat) : Int) := by rw [hq.out]; exact cpow_step m k
      have h2 := cpow_le hm' (show k + 1 ≤ 4 by omega)
      obtain ⟨p, hp⟩ : ∃ p, m ^ (k + 1) = p := ⟨_, rfl⟩
      rw [hp] at h1 h2
      have hw : IntKind.i64.wrap ((q : Int) * (m : Int)) = p := by rw [h1]; exact IntWalk.i64_in _ (by constructor <;> omega)
      have HP := Lib.hid hp.symm
      clear h1 hp
      go_wp2
      go_roundg (lf - (k + 1))
      case measure => omega
      case rel => exact ⟨by first | rfl | trivial, k + 1, p, by omega, by omega, by go_num, rfl, HP⟩
    · have hkk : k = lf := by omega
      subst hkk
      go_wp2
      go_ret
      exact ⟨ret_int (by rw [hq.out]), B0.out⟩

set_option maxHeartbeats 2000000 in
theorem l10Count_any (m : Nat) (N : Int) (w : World) (hm : 1 ≤ m) (hm' : m ≤ 16) (hN : 1 ≤ N ∧ N ≤ 4) :
    Calls Try.prog 72 #[.int .i64 m, .int .i64 N] w fun e' w' => e' = .returned (.int .i64 (min (m ^ N.toNat) 301 : Nat)) ∧ w = w' := by
  obtain ⟨lf, rfl⟩ := Int.eq_ofNat_of_zero_le (show 0 ≤ N by omega)
  have hf : lf ≤ 4 := by omega
  rw [Int.toNat_natCast]
  go_enter Try.func72, Try.ntmps72
  go_wp2
  go_loopg [5, 7] 4 (fun g s i wr => w = wr ∧ ∃ k q : Nat, k ≤ lf ∧ lf ≤ k + g ∧ i = .int .i64 k ∧ s = .int .i64 q ∧ Hid (q = min (m ^ k) 301))
  case atStart => exact ⟨rfl, 0, 1, Nat.zero_le _, by omega, rfl, rfl, Lib.hid (by simp)⟩
  case round =>
    obtain ⟨rfl, k, q, hk, hg, rfl, rfl, hq⟩ := hrel
    by_cases hlt : k < lf
    · have h17 : q ≤ 301 := by rw [hq.out]; exact Nat.min_le_right _ _
      have h0 : q * m ≤ 301 * 16 := Nat.mul_le_mul h17 hm'
      have h1 : (q : Int) * (m : Int) = ((q * m : Nat) : Int) := by simp
      have h2 := Lib.hid (show min (q * m) 301 = min (m ^ (k + 1)) 301 by rw [hq.out]; exact min_step3 hm)
      obtain ⟨p, hp⟩ : ∃ p, q * m = p := ⟨_, rfl⟩
      rw [hp] at h0 h1 h2
      have hw : IntKind.i64.wrap ((q : Int) * (m : Int)) = p := by rw [h1]; exact IntWalk.i64_in _ (by constructor <;> omega)
      clear h1 hp
      by_cases hp3 : (301 : Int) < (p : Int)
      · have e1 := Lib.hid (show 301 = min (m ^ (k + 1)) 301 by have := h2.out; omega)
        go_wp2
        go_roundg (lf - (k + 1))
        case measure => omega
        case rel => exact ⟨by first | rfl | trivial, k + 1, 301, by omega, by omega, by go_num, rfl, e1⟩
      · have hp4 : (p : Int) ≤ 301 := by omega
        have e1 := Lib.hid (show p = min (m ^ (k + 1)) 301 by have := h2.out; omega)
        go_wp2
        go_roundg (lf - (k + 1))
        case measure => omega
        case rel => exact ⟨by first | rfl | trivial, k + 1, p, by omega, by omega, by go_num, rfl, e1⟩
    · have hkk : k = lf := by omega
      subst hkk
      go_wp2
      go_ret
      exact ⟨ret_int (by rw [hq.out]), rfl⟩

theorem spw_boxes (n o : Int) (A B : Option Addr) (la ca lb cb : Nat) (w : World) (zs : Array Value) : ∃ W, (w.alloc (.cells #[.int .i64 n, .int .i64 o, .slice A la ca, .slice B lb cb] 27)).alloc (.cells zs 59) = W ∧
    Blk W w.heap.size 27 #[.int .i64 n, .int .i64 o, .slice A la ca, .slice B lb cb] ∧ Blk W (w.heap.size + 1) 59 zs ∧ Below w.heap.size w W ∧ W.heap.size = w.heap.size + 2 := by
  refine ⟨_, rfl, (Blk.new w _ _).alloc _, ?_, ((Below.refl _ _).alloc (Nat.le_refl _) _).alloc (by simp) _, by simp⟩
  have := Blk.new (w.alloc (.cells #[.int .i64 n, .int .i64 o, .slice A la ca, .slice B lb cb] 27)) 59 zs
  rw [World.size_alloc] at this
  exact this

/-- What spaceWith hands back where there is none. -/
abbrev spZ : Array Value := spV 0 0 none none 0 0 0 0 0
def spO (b : Bool) (x : Array Value) : Array Value := if b = true then x else spZ

theorem spw_fin {w w1 : World} {a b c d e a' b' c' d' e' : Value} {z : Bool} (B1 : Below w.heap.size w w1) (P1 : Blk w1 (w.heap.size + 1) 59 #[a', b', c', d', e']) (tmps : Array Value) (hp : tmps.getD 6 undef = .pointer (some ⟨w.heap.size + 1, 0, none⟩)) (hb : tmps.getD 7 undef = .bool z) :
    bodyPost Try.prog Try.f41 (fun r w' => r = .returned (.tuple #[.agg #[a, b, c, d, e], .bool z]) ∧ Below w.heap.size w w') .ret { tmps := tmps, defers := [] }
      (((((w1.setCell ⟨w.heap.size + 1, 0, none⟩ a).setCell ⟨w.heap.size + 1, 1, none⟩ b).setCell ⟨w.heap.size + 1, 2, none⟩ c).setCell ⟨w.heap.size + 1, 3, none⟩ d).setCell ⟨w.heap.size + 1, 4, none⟩ e) := by
  refine bodyPost_ret (v := .tuple #[.agg #[a, b, c, d, e], .bool z]) ?_ rfl ⟨rfl, ((((B1.setCell (by simp) _).setCell (by simp) _).setCell (by simp) _).setCell (by simp) _).setCell (by simp) _⟩
  exact results_cell_flag rfl _ _ (w.heap.size + 1) 59 _ _ _ hp hb (((((P1.set_ 0 a).set_ 1 b).set_ 2 c).set_ 3 d).set_ 4 e) Try.underlying59 rfl (by kernel_rfl)

set_option maxHeartbeats 16000000 in
theorem spw_any (n o N : Int) (A B : Option Addr) (la ca lb cb : Nat) (X Y : List Int) (RR : List (List Int)) (v : Value) (w : World) (hX : Ints w w.heap.size A la X) (hY : Ints w w.heap.size B lb Y) (hR : Rws w w.heap.size v RR) (hla : la ≤ 9223372036854775807) (hlb : lb ≤ 9223372036854775807) (hca : la ≤ ca) (hcb : lb ≤ cb) (hlr : RR.length ≤ 9223372036854775807) :
    Calls Try.prog 41 #[.agg #[.int .i64 n, .int .i64 o, .slice A la ca, .slice B lb cb], .int .i64 N, v] w fun e' w' => e' = .returned (.tuple #[.agg (spO (spcB n o X Y N RR) (spV n o A B la ca lb cb N)), .bool (spcB n o X Y N RR)]) ∧ Below w.heap.size w w' := by
  obtain ⟨W, hW, k0, k1, b0, hsz⟩ := spw_boxes n o A B la ca lb cb w (spV 0 0 none none 0 0 0 0 0)
  have HX0 := Lib.hid hX
  have HY0 := Lib.hid hY
  obtain ⟨Ar, cr, rfl, hRR⟩ := hR
  have HRR := Lib.hid hRR
  clear hRR
  obtain ⟨nr, hnr⟩ : ∃ x, RR.length = x := ⟨_, rfl⟩
  have HNR := Lib.hid hnr
  rw [hnr] at hlr ⊢
  obtain ⟨V, hV⟩ : ∃ V, W.alloc (.cells (spV n o A B la ca lb cb N) 59) = V := ⟨_, rfl⟩
  have v0 : Blk V (w.heap.size + 2) 59 (spV n o A B la ca lb cb N) := by subst hV; rw [← hsz]; exact Blk.new W _ _
  have bv : Below W.heap.size W V := by subst hV; exact (Below.refl _ _).alloc (Nat.le_refl _) _
  have BV := Lib.hid (below_step b0 bv)
  have HX := Lib.hid (hX.next (below_step b0 bv))
  have HY := Lib.hid (hY.next (below_step b0 bv))
  have HW := Lib.hid hW
  have HV := Lib.hid hV
  have K0 := Lib.hid (k0.next bv)
  have K1 := Lib.hid (k1.next bv)
  have V0 := Lib.hid v0
  obtain ⟨c0, c1, c2, c3⟩ := blk4 k0
  clear b0 hW k0 k1 hV v0 bv hX hY hnr
  cases hv : validB n o X Y
  · have hz := Lib.hid (spc_v (N := N) (RR := RR) hv)
    go_enter Try.func41, Try.ntmps41
    go_upto_region 1 with (fail)
    rw [HW.out]
    go_upto_region 2 with (fail)
    rw [HV.out]
    clear c0 c1 c2 c3
    obtain ⟨c0, c1, c2, c3⟩ := blk4 K0.out
    go_wp2_with (first
      | (go_at_call 46; (with_reducible refine (valid_any _ _ _ _ _ _ _ _ X Y _ HX.out HY.out hla hlb hca hcb).mono ?_); rintro e1 w1 ⟨rfl, hb1⟩; rw [hv]; have B1 := Lib.hid (below_step BV.out hb1); have P1 := Lib.hid (K1.out.next hb1); have V1 := Lib.hid (V0.out.next hb1); have K2 := Lib.hid (K0.out.next hb1); clear hb1; clear c0 c1 c2 c3; obtain ⟨c0, c1, c2, c3⟩ := blk4 K2.out; obtain ⟨e0, e1', e2', e3', e4⟩ := cblk5 V1.out; have d0 := P1.out.cell 0; have d1 := P1.out.cell 1; have d2 := P1.out.cell 2; have d3 := P1.out.cell 3; have d4 := P1.out.cell 4; have f0 := P1.out.frozen 0; have f1 := P1.out.frozen 1; have f2 := P1.out.frozen 2; have f3 := P1.out.frozen 3; have f4 := P1.out.frozen 4; simp at d0 d1 d2 d3 d4)
      | fail)
    rw [hz.out]
    exact spw_fin B1.out P1.out _ rfl rfl
  obtain ⟨m, rfl, hm1, hm16⟩ := pol_valid_size hv
  by_cases hn1 : N < 1
  · have hz := Lib.hid (spc_c (n := m) (o := o) (X := X) (Y := Y) (N := N) (RR := RR) (by omega))
    go_enter Try.func41, Try.ntmps41
    go_upto_region 1 with (fail)
    rw [HW.out]
    go_upto_region 2 with (fail)
    rw [HV.out]
    clear c0 c1 c2 c3
    obtain ⟨c0, c1, c2, c3⟩ := blk4 K0.out
    go_wp2_with (first
      | (go_at_call 46; (with_reducible refine (valid_any _ _ _ _ _ _ _ _ X Y _ HX.out HY.out hla hlb hca hcb).mono ?_); rintro e1 w1 ⟨rfl, hb1⟩; rw [hv]; have B1 := Lib.hid (below_step BV.out hb1); have P1 := Lib.hid (K1.out.next hb1); have V1 := Lib.hid (V0.out.next hb1); have K2 := Lib.hid (K0.out.next hb1); clear hb1; clear c0 c1 c2 c3; obtain ⟨c0, c1, c2, c3⟩ := blk4 K2.out; obtain ⟨e0, e1', e2', e3', e4⟩ := cblk5 V1.out; have d0 := P1.out.cell 0; have d1 := P1.out.cell 1; have d2 := P1.out.cell 2; have d3 := P1.out.cell 3; have d4 := P1.out.cell 4; have f0 := P1.out.frozen 0; have f1 := P1.out.frozen 1; have f2 := P1.out.frozen 2; have f3 := P1.out.frozen 3; have f4 := P1.out.frozen 4; simp at d0 d1 d2 d3 d4)
      | fail)
    rw [hz.out]
    exact spw_fin B1.out P1.out _ rfl rfl
  by_cases hn4 : 4 < N
  · have hz := Lib.hid (spc_c (n := m) (o := o) (X := X) (Y := Y) (N := N) (RR := RR) (by omega))
    go_enter Try.func41, Try.ntmps41
    go_upto_region 1 with (fail)
    rw [HW.out]
    go_upto_region 2 with (fail)
    rw [HV.out]
    clear c0 c1 c2 c3
    obtain ⟨c0, c1, c2, c3⟩ := blk4 K0.out
    go_wp2_with (first
      | (go_at_call 46; (with_reducible refine (valid_any _ _ _ _ _ _ _ _ X Y _ HX.out HY.out hla hlb hca hcb).mono ?_); rintro e1 w1 ⟨rfl, hb1⟩; rw [hv]; have B1 := Lib.hid (below_step BV.out hb1); have P1 := Lib.hid (K1.out.next hb1); have V1 := Lib.hid (V0.out.next hb1); have K2 := Lib.hid (K0.out.next hb1); clear hb1; clear c0 c1 c2 c3; obtain ⟨c0, c1, c2, c3⟩ := blk4 K2.out; obtain ⟨e0, e1', e2', e3', e4⟩ := cblk5 V1.out; have d0 := P1.out.cell 0; have d1 := P1.out.cell 1; have d2 := P1.out.cell 2; have d3 := P1.out.cell 3; have d4 := P1.out.cell 4; have f0 := P1.out.frozen 0; have f1 := P1.out.frozen 1; have f2 := P1.out.frozen 2; have f3 := P1.out.frozen 3; have f4 := P1.out.frozen 4; simp at d0 d1 d2 d3 d4)
      | fail)
    rw [hz.out]
    exact spw_fin B1.out P1.out _ rfl rfl
  have hN14 : 1 ≤ N ∧ N ≤ 4 := by omega
  obtain ⟨q, hq⟩ : ∃ q, m ^ N.toNat = q := ⟨_, rfl⟩
  have HQ := Lib.hid hq
  have hq6 : q ≤ 65536 := by rw [← hq]; exact cpow_le hm16 (by omega)
  have hnq : (m : Int).toNat ^ N.toNat = q := by rw [Int.toNat_natCast]; exact hq
  clear hq
  by_cases hc3 : (300 : Int) < (q : Int)
  · have hz := Lib.hid (spc_c (o := o) (X := X) (Y := Y) (N := N) (n := m) (RR := RR) (by omega))
    clear hnq
    go_enter Try.func41, Try.ntmps41
    go_upto_region 1 with (fail)
    rw [HW.out]
    go_upto_region 2 with (fail)
    rw [HV.out]
    clear c0 c1 c2 c3
    obtain ⟨c0, c1, c2, c3⟩ := blk4 K0.out
    go_wp2_with (first
      | (go_at_call 46; (with_reducible refine (valid_any _ _ _ _ _ _ _ _ X Y _ HX.out HY.out hla hlb hca hcb).mono ?_); rintro e1 w1 ⟨rfl, hb1⟩; rw [hv]; have B1 := Lib.hid (below_step BV.out hb1); have P1 := Lib.hid (K1.out.next hb1); have V1 := Lib.hid (V0.out.next hb1); have K2 := Lib.hid (K0.out.next hb1); clear hb1; clear c0 c1 c2 c3; obtain ⟨c0, c1, c2, c3⟩ := blk4 K2.out; obtain ⟨e0, e1', e2', e3', e4⟩ := cblk5 V1.out; have d0 := P1.out.cell 0; have d1 := P1.out.cell 1; have d2 := P1.out.cell 2; have d3 := P1.out.cell 3; have d4 := P1.out.cell 4; have f0 := P1.out.frozen 0; have f1 := P1.out.frozen 1; have f2 := P1.out.frozen 2; have f3 := P1.out.frozen 3; have f4 := P1.out.frozen 4; simp at d0 d1 d2 d3 d4)
      | (go_at_call 73; (with_reducible refine (count_any _ _ _ _ _ _ _ _ N _ hm16 hN14).mono ?_); rintro e2 w2 ⟨rfl, hb2⟩; rw [HQ.out]; have B2 := Lib.hid (below_step B1.out hb2); have P2 := Lib.hid (P1.out.next hb2); have V2 := Lib.hid (V1.out.next hb2); have K3 := Lib.hid (K2.out.next hb2); clear hb2; clear c0 c1 c2 c3 d0 d1 d2 d3 d4 f0 f1 f2 f3 f4 e0 e1' e2' e3' e4; obtain ⟨c0, c1, c2, c3⟩ := blk4 K3.out; obtain ⟨e0, e1', e2', e3', e4⟩ := cblk5 V2.out; have d0 := P2.out.cell 0; have d1 := P2.out.cell 1; have d2 := P2.out.cell 2; have d3 := P2.out.cell 3; have d4 := P2.out.cell 4; have f0 := P2.out.frozen 0; have f1 := P2.out.frozen 1; have f2 := P2.out.frozen 2; have f3 := P2.out.frozen 3; have f4 := P2.out.frozen 4; simp at d0 d1 d2 d3 d4)
      | fail)
    rw [hz.out]
    exact spw_fin B2.out P2.out _ rfl rfl
  by_cases hr3 : (300 : Int) < (nr : Int)
  · have hz := Lib.hid (spc_c (o := o) (X := X) (Y := Y) (N := N) (n := m) (RR := RR) (by have := HNR.out; omega))
    clear hnq
    go_enter Try.func41, Try.ntmps41
    go_upto_region 1 with (fail)
    rw [HW.out]
    go_upto_region 2 with (fail)
    rw [HV.out]
    clear c0 c1 c2 c3
    obtain ⟨c0, c1, c2, c3⟩ := blk4 K0.out
    go_wp2_with (first
      | (go_at_call 46; (with_reducible refine (valid_any _ _ _ _ _ _ _ _ X Y _ HX.out HY.out hla hlb hca hcb).mono ?_); rintro e1 w1 ⟨rfl, hb1⟩; rw [hv]; have B1 := Lib.hid (below_step BV.out hb1); have P1 := Lib.hid (K1.out.next hb1); have V1 := Lib.hid (V0.out.next hb1); have K2 := Lib.hid (K0.out.next hb1); clear hb1; clear c0 c1 c2 c3; obtain ⟨c0, c1, c2, c3⟩ := blk4 K2.out; obtain ⟨e0, e1', e2', e3', e4⟩ := cblk5 V1.out; have d0 := P1.out.cell 0; have d1 := P1.out.cell 1; have d2 := P1.out.cell 2; have d3 := P1.out.cell 3; have d4 := P1.out.cell 4; have f0 := P1.out.frozen 0; have f1 := P1.out.frozen 1; have f2 := P1.out.frozen 2; have f3 := P1.out.frozen 3; have f4 := P1.out.frozen 4; simp at d0 d1 d2 d3 d4)
      | (go_at_call 73; (with_reducible refine (count_any _ _ _ _ _ _ _ _ N _ hm16 hN14).mono ?_); rintro e2 w2 ⟨rfl, hb2⟩; rw [HQ.out]; have B2 := Lib.hid (below_step B1.out hb2); have P2 := Lib.hid (P1.out.next hb2); have V2 := Lib.hid (V1.out.next hb2); have K3 := Lib.hid (K2.out.next hb2); clear hb2; clear c0 c1 c2 c3 d0 d1 d2 d3 d4 f0 f1 f2 f3 f4 e0 e1' e2' e3' e4; obtain ⟨c0, c1, c2, c3⟩ := blk4 K3.out; obtain ⟨e0, e1', e2', e3', e4⟩ := cblk5 V2.out; have d0 := P2.out.cell 0; have d1 := P2.out.cell 1; have d2 := P2.out.cell 2; have d3 := P2.out.cell 3; have d4 := P2.out.cell 4; have f0 := P2.out.frozen 0; have f1 := P2.out.frozen 1; have f2 := P2.out.frozen 2; have f3 := P2.out.frozen 3; have f4 := P2.out.frozen 4; simp at d0 d1 d2 d3 d4)
      | fail)
    rw [hz.out]
    exact spw_fin B2.out P2.out _ rfl rfl
  have HC := Lib.hid (show 1 ≤ N ∧ N ≤ 4 ∧ (m : Int).toNat ^ N.toNat ≤ 300 ∧ RR.length ≤ 300 by have := HNR.out; omega)
  clear hnq
  go_enter Try.func41, Try.ntmps41
  go_upto_region 1 with (fail)
  rw [HW.out]
  go_upto_region 2 with (fail)
  rw [HV.out]
  clear c0 c1 c2 c3
  obtain ⟨c0, c1, c2, c3⟩ := blk4 K0.out
  go_wp2_with (first
      | (go_at_call 46; (with_reducible refine (valid_any _ _ _ _ _ _ _ _ X Y _ HX.out HY.out hla hlb hca hcb).mono ?_); rintro e1 w1 ⟨rfl, hb1⟩; rw [hv]; have B1 := Lib.hid (below_step BV.out hb1); have P1 := Lib.hid (K1.out.next hb1); have V1 := Lib.hid (V0.out.next hb1); have K2 := Lib.hid (K0.out.next hb1); clear hb1; clear c0 c1 c2 c3; obtain ⟨c0, c1, c2, c3⟩ := blk4 K2.out; obtain ⟨e0, e1', e2', e3', e4⟩ := cblk5 V1.out; have d0 := P1.out.cell 0; have d1 := P1.out.cell 1; have d2 := P1.out.cell 2; have d3 := P1.out.cell 3; have d4 := P1.out.cell 4; have f0 := P1.out.frozen 0; have f1 := P1.out.frozen 1; have f2 := P1.out.frozen 2; have f3 := P1.out.frozen 3; have f4 := P1.out.frozen 4; simp at d0 d1 d2 d3 d4)
      | (go_at_call 73; (with_reducible refine (count_any _ _ _ _ _ _ _ _ N _ hm16 hN14).mono ?_); rintro e2 w2 ⟨rfl, hb2⟩; rw [HQ.out]; have B2 := Lib.hid (below_step B1.out hb2); have P2 := Lib.hid (P1.out.next hb2); have V2 := Lib.hid (V1.out.next hb2); have K3 := Lib.hid (K2.out.next hb2); clear hb2; clear c0 c1 c2 c3 d0 d1 d2 d3 d4 f0 f1 f2 f3 f4 e0 e1' e2' e3' e4; obtain ⟨c0, c1, c2, c3⟩ := blk4 K3.out; obtain ⟨e0, e1', e2', e3', e4⟩ := cblk5 V2.out; have d0 := P2.out.cell 0; have d1 := P2.out.cell 1; have d2 := P2.out.cell 2; have d3 := P2.out.cell 3; have d4 := P2.out.cell 4; have f0 := P2.out.frozen 0; have f1 := P2.out.frozen 1; have f2 := P2.out.frozen 2; have f3 := P2.out.frozen 3; have f4 := P2.out.frozen 4; simp at d0 d1 d2 d3 d4)
      | fail)
  clear d0 d1 d2 d3 d4 f0 f1 f2 f3 f4 e0 e1' e2' e3' e4 c0 c1 c2 c3
  have hs2 := P2.out.lt
  have hs2' := V2.out.lt
  go_loopg [38] nr (fun g2 vi wr => ∃ y : Nat, y ≤ nr ∧ nr ≤ y + g2 ∧ vi = .int .i64 y ∧ (∀ j, j < y → rowOk (m : Int) N (RR[j]?.getD []) = true) ∧ Below w2.heap.size w2 wr)
  case atStart => exact ⟨0, Nat.zero_le _, by omega, rfl, fun j hj => absurd hj (by omega), Below.refl _ _⟩
  case round =>
    obtain ⟨y, hy, hg2, rfl, hup, hb⟩ := hrel
    have HU := Lib.hid hup
    have BL := Lib.hid (below_step B2.out hb)
    have B9 := Lib.hid hb
    have PL := Lib.hid (P2.out.next hb)
    have VL := Lib.hid (V2.out.next hb)
    have KL := Lib.hid (K3.out.next hb)
    clear hup hb
    by_cases hlt : y < nr
    · obtain ⟨Z, hZ⟩ : ∃ Z, RR[y]? = some Z := ⟨_, List.getElem?_eq_getElem (by rw [HNR.out]; exact hlt)⟩
      obtain ⟨g, off, Bz, cz, rfl, h2, hc, h4, h5, h6⟩ := HRR.out y Z hZ
      have hck : wr.cell? ⟨g, off + y, none⟩ = some (.slice Bz Z.length cz) := (BL.out.cell (p := ⟨g, off + y, none⟩) h2).trans hc
      have IZ := Lib.hid ((h6.below BL.out (Nat.le_refl _)).more BL.out.size)
      have HO := Lib.hid (spc_one hZ)
      obtain ⟨lz, hlz0⟩ : ∃ x, Z.length = x := ⟨_, rfl⟩
      have HLZ := Lib.hid hlz0
      rw [hlz0] at hck h4 h5 IZ
      have hlz : lz ≤ 9223372036854775807 := h5
      clear hc hZ h6 hlz0
      obtain ⟨c0, c1, c2, c3⟩ := blk4 KL.out
      have d0 := PL.out.cell 0; have d1 := PL.out.cell 1; have d2 := PL.out.cell 2; have d3 := PL.out.cell 3; have d4 := PL.out.cell 4; have f0 := PL.out.frozen 0; have f1 := PL.out.frozen 1; have f2 := PL.out.frozen 2; have f3 := PL.out.frozen 3; have f4 := PL.out.frozen 4; simp at d0 d1 d2 d3 d4
      by_cases hl : (lz : Int) = N
      rotate_left
      · have hz := Lib.hid (spc_r (o := o) (X := X) (Y := Y) (i := y) (RR := RR) (by rw [HNR.out]; exact hlt) (show rowOk (m : Int) N (RR[y]?.getD []) = false by rw [HO.out]; exact rowOk_len (by rw [HLZ.out]; exact hl)))
        have t1 : ((lz : Int) != N) = true := by rw [bne_iff_ne]; exact hl
        have t2 : ((lz : Int) == N) = false := by rw [beq_eq_false_iff_ne]; exact hl
        go_wp2
        rw [hz.out]
        exact spw_fin BL.out PL.out _ rfl rfl
      have t1 : ((lz : Int) != N) = false := by rw [hl]; simp
      have t2 : ((lz : Int) == N) = true := by rw [hl]; simp
      cases haZ : allB (m : Int) Z
      · have hz := Lib.hid (spc_r (o := o) (X := X) (Y := Y) (i := y) (RR := RR) (by rw [HNR.out]; exact hlt) (show rowOk (m : Int) N (RR[y]?.getD []) = false by rw [HO.out]; exact rowOk_all haZ))
        go_wp2_with (go_at_call 47; (with_reducible refine (hasAll_any _ _ _ _ Bz _ _ _ _ lz cz Z _ IZ.out hlz).mono ?_); rintro e3 w3 ⟨rfl, hb3⟩; rw [haZ]; have BL := Lib.hid (below_step BL.out hb3); have P3 := Lib.hid (PL.out.next hb3); clear hb3; clear c0 c1 c2 c3 d0 d1 d2 d3 d4 f0 f1 f2 f3 f4; have d0 := P3.out.cell 0; have d1 := P3.out.cell 1; have d2 := P3.out.cell 2; have d3 := P3.out.cell 3; have d4 := P3.out.cell 4; have f0 := P3.out.frozen 0; have f1 := P3.out.frozen 1; have f2 := P3.out.frozen 2; have f3 := P3.out.frozen 3; have f4 := P3.out.frozen 4; simp at d0 d1 d2 d3 d4)
        rw [hz.out]
        exact spw_fin BL.out P3.out _ rfl rfl
      · have HRY := Lib.hid (show rowOk (m : Int) N (RR[y]?.getD []) = true by rw [HO.out]; exact rowOk_yes (by rw [HLZ.out]; exact hl) haZ)
        go_wp2_with (go_at_call 47; (with_reducible refine (hasAll_any _ _ _ _ Bz _ _ _ _ lz cz Z _ IZ.out hlz).mono ?_); rintro e3 w3 ⟨rfl, hb3⟩; rw [haZ]; have BL := Lib.hid (below_step BL.out hb3); have P3 := Lib.hid (PL.out.next hb3); have B8 := Lib.hid (below_step B9.out hb3); clear hb3; clear c0 c1 c2 c3 d0 d1 d2 d3 d4 f0 f1 f2 f3 f4; have d0 := P3.out.cell 0; have d1 := P3.out.cell 1; have d2 := P3.out.cell 2; have d3 := P3.out.cell 3; have d4 := P3.out.cell 4; have f0 := P3.out.frozen 0; have f1 := P3.out.frozen 1; have f2 := P3.out.frozen 2; have f3 := P3.out.frozen 3; have f4 := P3.out.frozen 4; simp at d0 d1 d2 d3 d4)
        go_roundg (nr - (y + 1))
        case measure => omega
        case rel => exact ⟨y + 1, by omega, by omega, by go_num, forall_succ HU.out HRY.out, B8.out⟩
    · have hym : y = nr := by omega
      subst hym
      have hz := Lib.hid (spc_yes (o := o) (X := X) (Y := Y) hv HC.out (fun i hi => HU.out i (by rw [← HNR.out]; exact hi)))
      obtain ⟨e0, e1', e2', e3', e4⟩ := cblk5 VL.out
      have d0 := PL.out.cell 0; have d1 := PL.out.cell 1; have d2 := PL.out.cell 2; have d3 := PL.out.cell 3; have d4 := PL.out.cell 4; have f0 := PL.out.frozen 0; have f1 := PL.out.frozen 1; have f2 := PL.out.frozen 2; have f3 := PL.out.frozen 3; have f4 := PL.out.frozen 4; simp at d0 d1 d2 d3 d4
      go_wp2
      rw [hz.out]
      exact spw_fin BL.out PL.out _ rfl rfl

section
variable {n o N : Int} {A B : Option Addr} {la ca lb cb : Nat} {X Y : List Int} {RR : List (List Int)} {v : Value} {w : World} (hX : Ints w w.heap.size A la X) (hY : Ints w w.heap.size B lb Y) (hR : Rws w w.heap.size v RR) (hla : la ≤ 9223372036854775807) (hlb : lb ≤ 9223372036854775807) (hca : la ≤ ca) (hcb : lb ≤ cb) (hlr : RR.length ≤ 9223372036854775807)
include hX hY hR hla hlb hca hcb hlr
theorem spw_no (h : spcB n o X Y N RR = false) : Calls Try.prog 41 #[.agg #[.int .i64 n, .int .i64 o, .slice A la ca, .slice B lb cb], .int .i64 N, v] w fun e' w' => e' = .returned (.tuple #[.agg spZ, .bool false]) ∧ Below w.heap.size w w' := by
  have := spw_any n o N A B la ca lb cb X Y RR v w hX hY hR hla hlb hca hcb hlr
  rw [h] at this
  exact this
theorem spw_yes (h : spcB n o X Y N RR = true) : Calls Try.prog 41 #[.agg #[.int .i64 n, .int .i64 o, .slice A la ca, .slice B lb cb], .int .i64 N, v] w fun e' w' => e' = .returned (.tuple #[.agg (spV n o A B la ca lb cb N), .bool true]) ∧ Below w.heap.size w w' := by
  have := spw_any n o N A B la ca lb cb X Y RR v w hX hY hR hla hlb hca hcb hlr
  rw [h] at this
  exact this
end

end Go.Proofs.Ytahdkdpliphcnaa



/- Codes: the reading side's test of rows; numbers of vectors: NumberOf of both sides. -/
namespace Go.Proofs.Ytahdkdpliphcnaa
open Go.RowKit
set_option maxRecDepth 100000

set_option maxHeartbeats 8000000 in
theorem l10Valid_any (n o N : Int) (A B : Option Addr) (la ca lb cb : Nat) (X Y : List Int) (RR : List (List Int)) (v : Value) (w : World) (hX : Ints w w.heap.size A la X) (hY : Ints w w.heap.size B lb Y) (hR : Rws w w.heap.size v RR) (hla : la ≤ 9223372036854775807) (hlb : lb ≤ 9223372036854775807) (hca : la ≤ ca) (hcb : lb ≤ cb) (hlr : RR.length ≤ 9223372036854775807) :
    Calls Try.prog 39 #[.agg #[.int .i64 n, .int .i64 o, .slice A la ca, .slice B lb cb], .int .i64 N, v] w fun e' w' => e' = .returned (.bool (spcB n o X Y N RR)) ∧ Below w.heap.size w w' := by
  obtain ⟨Ar, cr, rfl, hRR⟩ := hR
  have HRR := Lib.hid hRR
  clear hRR
  obtain ⟨nr, hnr⟩ : ∃ x, RR.length = x := ⟨_, rfl⟩
  have HNR := Lib.hid hnr
  rw [hnr] at hlr ⊢
  obtain ⟨W, hW⟩ : ∃ W, w.alloc (.cells #[.int .i64 n, .int .i64 o, .slice A la ca, .slice B lb cb] 27) = W := ⟨_, rfl⟩
  have k0 : Blk W w.heap.size 27 #[.int .i64 n, .int .i64 o, .slice A la ca, .slice B lb cb] := by subst hW; exact Blk.new w _ _
  have b0 : Below w.heap.size w W := by subst hW; exact (Below.refl _ _).alloc (Nat.le_refl _) _
  have HX := Lib.hid (hX.next b0)
  have HY := Lib.hid (hY.next b0)
  have K0 := Lib.hid k0
  have B0 := Lib.hid b0
  have HW := Lib.hid hW
  have HH := Lib.hid (show wrap64 (n - 1) = hiOf n from rfl)
  have hs0 := k0.lt
  obtain ⟨c0, c1, c2, c3⟩ := blk4 k0
  clear hX hY k0 b0 hW hnr
  cases hin : inC N 1 4
  · have hz := Lib.hid (spc_c (n := n) (o := o) (X := X) (Y := Y) (RR := RR) (N := N) (fun h => by have := of_decide_eq_false hin; omega))
    go_enter Try.func39, Try.ntmps39
    go_wp2_with (fail)
    rw [HW.out]
    go_wp2_with (first
      | (go_at_call 68; (with_reducible refine (l1In_any _ _ _ _).mono ?_); rintro e5 w5 ⟨rfl, rfl⟩; rw [hin])
      | fail)
    go_ret
    exact ⟨ret_bool hz.out.symm, B0.out⟩
  have hN14 : 1 ≤ N ∧ N ≤ 4 := of_decide_eq_true hin
  cases hv : validB n o X Y
  · have hz := Lib.hid (spc_v (N := N) (RR := RR) hv)
    go_enter Try.func39, Try.ntmps39
    go_wp2_with (fail)
    rw [HW.out]
    go_wp2_with (first
      | (go_at_call 68; (with_reducible refine (l1In_any _ _ _ _).mono ?_); rintro e5 w5 ⟨rfl, rfl⟩; rw [hin])
      | (go_at_call 44; (with_reducible refine (specValid_any _ _ _ _ _ _ _ _ X Y _ HX.out HY.out hla hlb hca hcb).mono ?_); rintro e1 w1 ⟨rfl, hb1⟩; rw [hv]; have B1 := Lib.hid (below_step B0.out hb1); have K1 := Lib.hid (K0.out.next hb1); clear hb1; clear c0 c1 c2 c3; obtain ⟨c0, c1, c2, c3⟩ := blk4 K1.out)
      | fail)
    go_ret
    exact ⟨ret_bool hz.out.symm, B1.out⟩
  obtain ⟨m, rfl, hm1, hm16⟩ := pol_valid_size hv
  obtain ⟨q, hq⟩ : ∃ q, min (m ^ N.toNat) 301 = q := ⟨_, rfl⟩
  have HQ := Lib.hid hq
  have hq6 : q ≤ 301 := by rw [← hq]; exact Nat.min_le_right _ _
  have hnq : (m : Int).toNat ^ N.toNat ≤ 300 ↔ q ≤ 300 := by rw [Int.toNat_natCast]; omega
  clear hq
  by_cases hc3 : (300 : Int) < (q : Int)
  · have hz := Lib.hid (spc_c (o := o) (X := X) (Y := Y) (N := N) (n := m) (RR := RR) (fun h => by have := hnq.1 h.2.2.1; omega))
    clear hnq
    go_enter Try.func39, Try.ntmps39
    go_wp2_with (fail)
    rw [HW.out]
    go_wp2_with (first
      | (go_at_call 68; (with_reducible refine (l1In_any _ _ _ _).mono ?_); rintro e5 w5 ⟨rfl, rfl⟩; rw [hin])
      | (go_at_call 44; (with_reducible refine (specValid_any _ _ _ _ _ _ _ _ X Y _ HX.out HY.out hla hlb hca hcb).mono ?_); rintro e1 w1 ⟨rfl, hb1⟩; rw [hv]; have B1 := Lib.hid (below_step B0.out hb1); have K1 := Lib.hid (K0.out.next hb1); clear hb1; clear c0 c1 c2 c3; obtain ⟨c0, c1, c2, c3⟩ := blk4 K1.out)
      | (go_at_call 72; (with_reducible refine (l10Count_any _ N _ hm1 hm16 hN14).mono ?_); rintro e6 w6 ⟨rfl, rfl⟩; rw [HQ.out])
      | fail)
    go_ret
    exact ⟨ret_bool hz.out.symm, B1.out⟩
  by_cases hr3 : (300 : Int) < (nr : Int)
  · have hz := Lib.hid (spc_c (o := o) (X := X) (Y := Y) (N := N) (n := m) (RR := RR) (fun h => by have := HNR.out; have := h.2.2.2; omega))
    clear hnq
    go_enter Try.func39, Try.ntmps39
    go_wp2_with (fail)
    rw [HW.out]
    go_wp2_with (first
      | (go_at_call 68; (with_reducible refine (l1In_any _ _ _ _).mono ?_); rintro e5 w5 ⟨rfl, rfl⟩; rw [hin])
      | (go_at_call 44; (with_reducible refine (specValid_any _ _ _ _ _ _ _ _ X Y _ HX.out HY.out hla hlb hca hcb).mono ?_); rintro e1 w1 ⟨rfl, hb1⟩; rw [hv]; have B1 := Lib.hid (below_step B0.out hb1); have K1 := Lib.hid (K0.out.next hb1); clear hb1; clear c0 c1 c2 c3; obtain ⟨c0, c1, c2, c3⟩ := blk4 K1.out)
      | (go_at_call 72; (with_reducible refine (l10Count_any _ N _ hm1 hm16 hN14).mono ?_); rintro e6 w6 ⟨rfl, rfl⟩; rw [HQ.out])
      | fail)
    go_ret
    exact ⟨ret_bool hz.out.symm, B1.out⟩
  have HC := Lib.hid (show 1 ≤ N ∧ N ≤ 4 ∧ (m : Int).toNat ^ N.toNat ≤ 300 ∧ RR.length ≤ 300 from ⟨hN14.1, hN14.2, hnq.2 (by omega), by have := HNR.out; omega⟩)
  clear hnq
  go_enter Try.func39, Try.ntmps39
  go_wp2_with (fail)
  rw [HW.out]
  go_wp2_with (first
      | (go_at_call 68; (with_reducible refine (l1In_any _ _ _ _).mono ?_); rintro e5 w5 ⟨rfl, rfl⟩; rw [hin])
      | (go_at_call 44; (with_reducible refine (specValid_any _ _ _ _ _ _ _ _ X Y _ HX.out HY.out hla hlb hca hcb).mono ?_); rintro e1 w1 ⟨rfl, hb1⟩; rw [hv]; have B1 := Lib.hid (below_step B0.out hb1); have K1 := Lib.hid (K0.out.next hb1); clear hb1; clear c0 c1 c2 c3; obtain ⟨c0, c1, c2, c3⟩ := blk4 K1.out)
      | (go_at_call 72; (with_reducible refine (l10Count_any _ N _ hm1 hm16 hN14).mono ?_); rintro e6 w6 ⟨rfl, rfl⟩; rw [HQ.out])
      | fail)
  go_loopg [31] nr (fun g2 vi wr => ∃ y : Nat, wr = w1 ∧ y ≤ nr ∧ nr ≤ y + g2 ∧ vi = .int .i64 y ∧ (∀ j, j < y → rowOk (m : Int) N (RR[j]?.getD []) = true))
  case atStart => exact ⟨0, rfl, Nat.zero_le _, by omega, rfl, fun j hj => absurd hj (by omega)⟩
  case round =>
    obtain ⟨y, rfl, hy, hg2, rfl, hup⟩ := hrel
    have HU := Lib.hid hup
    clear hup
    by_cases hlt : y < nr
    · obtain ⟨Z, hZ⟩ : ∃ Z, RR[y]? = some Z := ⟨_, List.getElem?_eq_getElem (by rw [HNR.out]; exact hlt)⟩
      obtain ⟨g, off, Bz, cz, rfl, h2, hc, h4, h5, h6⟩ := HRR.out y Z hZ
      have hck := (B1.out.cell (p := ⟨g, off + y, none⟩) h2).trans hc
      have IZ := Lib.hid ((h6.below B1.out (Nat.le_refl _)).more B1.out.size)
      have HO := Lib.hid (spc_one hZ)
      obtain ⟨lz, hlz0⟩ : ∃ x, Z.length = x := ⟨_, rfl⟩
      have HLZ := Lib.hid hlz0
      rw [hlz0] at hck h4 h5 IZ
      have hlz : lz ≤ 9223372036854775807 := h5
      clear hc hZ h6 hlz0
      have hee := Lib.hid (elB_valid (Z := Z) hv)
      by_cases hl : (lz : Int) = N
      rotate_left
      · have hz := Lib.hid (spc_r (o := o) (X := X) (Y := Y) (i := y) (RR := RR) (by rw [HNR.out]; exact hlt) (show rowOk (m : Int) N (RR[y]?.getD []) = false by rw [HO.out]; exact rowOk_len (by rw [HLZ.out]; exact hl)))
        have t1 : ((lz : Int) != N) = true := by rw [bne_iff_ne]; exact hl
        have t2 : ((lz : Int) == N) = false := by rw [beq_eq_false_iff_ne]; exact hl
        go_wp2
        go_ret
        exact ⟨ret_bool hz.out.symm, B1.out⟩
      have t1 : ((lz : Int) != N) = false := by rw [hl]; simp
      have t2 : ((lz : Int) == N) = true := by rw [hl]; simp
      cases hel : elB (hiOf (m : Int)) Z
      · have hz := Lib.hid (spc_r (o := o) (X := X) (Y := Y) (i := y) (RR := RR) (by rw [HNR.out]; exact hlt) (show rowOk (m : Int) N (RR[y]?.getD []) = false by rw [HO.out]; exact rowOk_all (by rw [← hee.out]; exact hel)))
        go_wp2_with (go_at_call 43; (with_reducible refine (l1Elements_any _ _ Bz lz cz Z _ _ HH.out IZ.out hlz).mono ?_); rintro e3 w3 ⟨rfl, rfl⟩; rw [hel])
        go_ret
        exact ⟨ret_bool hz.out.symm, B1.out⟩
      · have HRY := Lib.hid (show rowOk (m : Int) N (RR[y]?.getD []) = true by rw [HO.out]; exact rowOk_yes (by rw [HLZ.out]; exact hl) (by rw [← hee.out]; exact hel))
        go_wp2_with (go_at_call 43; (with_reducible refine (l1Elements_any _ _ Bz lz cz Z _ _ HH.out IZ.out hlz).mono ?_); rintro e3 w3 ⟨rfl, rfl⟩; rw [hel])
        go_roundg (nr - (y + 1))
        case measure => omega
        case rel => exact ⟨y + 1, by first | rfl | trivial, by omega, by omega, by go_num, forall_succ HU.out HRY.out⟩
    · have hym : y = nr := by omega
      subst hym
      have hz := Lib.hid (spc_yes (o := o) (X := X) (Y := Y) hv HC.out (fun i hi => HU.out i (by rw [← HNR.out]; exact hi)))
      go_wp2
      go_ret
      exact ⟨ret_bool hz.out.symm, B1.out⟩

end Go.Proofs.Ytahdkdpliphcnaa

