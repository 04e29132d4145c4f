
import Derived.Test.YtahdkdpliphcnaaNK
import Derived.Test.YtahdkdpliphcnaaNG
/- Codes, plain facts: a system has no solution, or as many as its dual has vectors. -/
namespace Go.Proofs.Ytahdkdpliphcnaa
open Go.RowKit
set_option maxRecDepth 100000

theorem nodup_le : ∀ (L K : List Nat), L.Nodup → (∀ x ∈ L, x ∈ K) → L.length ≤ K.length
  | [], _, _, _ => Nat.zero_le _
  | a :: L, K, hn, h => by
    have ha := h a (by simp)
    have h1 := nodup_le L (K.erase a) (List.nodup_cons.1 hn).2 (fun x hx => by
      have hxa : x ≠ a := fun e => (List.nodup_cons.1 hn).1 (e ▸ hx)
      exact (List.mem_erase_of_ne hxa).2 (h x (by simp [hx])))
    rw [List.length_erase_of_mem ha] at h1
    have h2 : 0 < K.length := List.length_pos_of_mem ha
    simp only [List.length_cons]
    omega
theorem count_inj {N : Nat} {p q : Nat → Bool} (f : Nat → Nat) (hf : ∀ x, x < N → p x = true → f x < N ∧ q (f x) = true) (hi : ∀ x y, x < N → y < N → f x = f y → x = y) : ((List.range N).filter p).length ≤ ((List.range N).filter q).length := by
  have hn : ((List.range N).filter p).Nodup := List.Nodup.sublist List.filter_sublist List.nodup_range
  have hm : (((List.range N).filter p).map f).Nodup := by
    unfold List.Nodup
    rw [List.pairwise_map]
    refine List.Pairwise.imp_of_mem (R := fun a b => a ≠ b) ?_ hn
    intro a b ha hb hab e
    exact hab (hi a b (List.mem_range.1 (List.mem_filter.1 ha).1) (List.mem_range.1 (List.mem_filter.1 hb).1) e)
  have := nodup_le _ ((List.range N).filter q) hm (fun x hx => by
    obtain ⟨y, hy, rfl⟩ := List.mem_map.1 hx
    obtain ⟨h1, h2⟩ := List.mem_filter.1 hy
    obtain ⟨h3, h4⟩ := hf y (List.mem_range.1 h1) h2
    exact List.mem_filter.2 ⟨List.mem_range.2 h3, h4⟩)
  simpa using this

section
variable {m : Nat}
theorem vec_num (hm : 1 ≤ m) {u : Nat → Nat} : ∀ n, (∀ i, i < n → u i < m) → ∀ i, i < n → vecF m n (numN m u n) i = u i
  | 0, _, i, hi => absurd hi (by omega)
  | n + 1, hu, i, hi => by
    have hn := hu n (by omega)
    unfold vecF
    show (numN m u n * m + u n) / m ^ (n + 1 - 1 - i) % m = u i
    by_cases h : i = n
    · subst h
      rw [show i + 1 - 1 - i = 0 by omega, Nat.pow_zero, Nat.div_one, Nat.add_comm, Nat.add_mul_mod_self_right, Nat.mod_eq_of_lt hn]
    · rw [show n + 1 - 1 - i = (n - 1 - i) + 1 by omega, Nat.pow_succ, Nat.mul_comm (m ^ (n - 1 - i)) m, ← Nat.div_div_eq_div_mul]
      have e1 : (numN m u n * m + u n) / m = numN m u n := by
        rw [Nat.add_comm, Nat.mul_comm, Nat.add_mul_div_left _ _ hm, Nat.div_eq_of_lt hn, Nat.zero_add]
      rw [e1]
      exact vec_num hm n (fun i hi => hu i (by omega)) i (by omega)
theorem num_congr {u v : Nat → Nat} : ∀ n, (∀ i, i < n → u i = v i) → numN m u n = numN m v n
  | 0, _ => rfl
  | n + 1, h => by
    show numN m u n * m + u n = numN m v n * m + v n
    rw [num_congr n (fun i hi => h i (by omega)), h n (by omega)]
theorem num_vec (hm : 1 ≤ m) : ∀ n k, k < m ^ n → numN m (vecF m n k) n = k
  | 0, k, h => by
    show 0 = k
    simp at h
    omega
  | n + 1, k, h => by
    have hk : k / m < m ^ n := by rw [Nat.pow_succ] at h; exact Nat.div_lt_of_lt_mul (by rw [Nat.mul_comm]; exact h)
    show numN m (vecF m (n + 1) k) n * m + vecF m (n + 1) k n = k
    have e1 : numN m (vecF m (n + 1) k) n = numN m (vecF m n (k / m)) n := num_congr n fun i hi => by
      unfold vecF
      rw [show n + 1 - 1 - i = (n - 1 - i) + 1 by omega, Nat.pow_succ, Nat.mul_comm (m ^ (n - 1 - i)) m, ← Nat.div_div_eq_div_mul]
    have e2 : vecF m (n + 1) k n = k % m := by
      unfold vecF
      rw [show n + 1 - 1 - n = 0 by omega, Nat.pow_zero, Nat.div_one]
    rw [e1, e2, num_vec hm n (k / m) hk]
    have := Nat.div_add_mod k m
    rw [Nat.mul_comm] at this
    omega
end

section
variable {m e n : Nat} {S P : Nat → Nat}
theorem RTab.PS (R : RTab m S P e) {a b c : Nat} (ha : a < m) (hb : b < m) (hc : c < m) : P (a * m + S (b * m + c)) = S (P (a * m + b) * m + P (a * m + c)) := congrArg Fin.val (R.MA ⟨a, ha⟩ ⟨b, hb⟩ ⟨c, hc⟩)
theorem RTab.dlt (R : RTab m S P e) {F G : Nat → Nat} (hF : ∀ i, i < n → F i < m) (hG : ∀ i, i < n → G i < m) (k : Nat) (hk : k ≤ n) : dotN m S P F G k < m := dot_lt R.hm R.sl (fun _ _ hx hy => R.pc hx hy) hF hG k hk
theorem RTab.dot_add (R : RTab m S P e) {F G H : Nat → Nat} (hF : ∀ i, i < n → F i < m) (hG : ∀ i, i < n → G i < m) (hH : ∀ i, i < n → H i < m) : ∀ k, k ≤ n → dotN m S P F (fun i => S (G i * m + H i)) k = S (dotN m S P F G k * m + dotN m S P F H k)
  | 0, _ => (R.s.zero R.hm).symm
  | k + 1, h => by
    have ih := R.dot_add hF hG hH k (by omega)
    have h1 := hF k (by omega)
    have h2 := hG k (by omega)
    have h3 := hH k (by omega)
    show S (dotN m S P F (fun i => S (G i * m + H i)) k * m + P (F k * m + S (G k * m + H k))) = S (S (dotN m S P F G k * m + P (F k * m + G k)) * m + S (dotN m S P F H k * m + P (F k * m + H k)))
    rw [ih, R.PS h1 h2 h3, R.A4 (R.dlt hF hG k (by omega)) (R.dlt hF hH k (by omega)) (R.pc h1 h2) (R.pc h1 h3)]
theorem RTab.dot_zero (R : RTab m S P e) {F : Nat → Nat} (hF : ∀ i, i < n → F i < m) : ∀ k, k ≤ n → dotN m S P F (fun _ => 0) k = 0
  | 0, _ => rfl
  | k + 1, h => by
    show S (dotN m S P F (fun _ => 0) k * m + P (F k * m + 0)) = 0
    rw [R.dot_zero hF k (by omega), congrArg Fin.val (R.M0 ⟨F k, hF k (by omega)⟩ : R.M ⟨F k, hF k (by omega)⟩ R.t = R.t) |> (fun h : P (F k * m + 0) = 0 => h)]
    exact R.s.zero R.hm

/-- The vector that is shifted by another one. -/
def shf (m n : Nat) (S : Nat → Nat) (G : Nat → Nat) (k : Nat) : Nat := numN m (fun i => S (vecF m n k i * m + G i)) n
variable {G : Nat → Nat}
theorem RTab.shf_lt (R : RTab m S P e) (hG : ∀ i, i < n → G i < m) (k : Nat) : shf m n S G k < m ^ n := num_lt (l := n) (fun i hi => R.sc (vec_lt R.hm n k i) (hG i hi)) n (Nat.le_refl _)
theorem RTab.shf_vec (R : RTab m S P e) (hG : ∀ i, i < n → G i < m) {k i : Nat} (hi : i < n) : vecF m n (shf m n S G k) i = S (vecF m n k i * m + G i) := vec_num R.hm n (fun i hi => R.sc (vec_lt R.hm n k i) (hG i hi)) i hi
theorem RTab.shf_inj (R : RTab m S P e) (hG : ∀ i, i < n → G i < m) {x y : Nat} (hx : x < m ^ n) (hy : y < m ^ n) (h : shf m n S G x = shf m n S G y) : x = y := by
  rw [← num_vec R.hm n x hx, ← num_vec R.hm n y hy]
  refine num_congr n fun i hi => ?_
  have h1 := R.shf_vec hG (k := x) hi
  rw [h, R.shf_vec hG hi] at h1
  exact (sum_inj R.s R.n (hG i hi) (vec_lt R.hm n y i) (vec_lt R.hm n x i) h1).symm
theorem RTab.shf_dot (R : RTab m S P e) (hG : ∀ i, i < n → G i < m) {F : Nat → Nat} (hF : ∀ i, i < n → F i < m) (k : Nat) : dotN m S P F (vecF m n (shf m n S G k)) n = S (dotN m S P F (vecF m n k) n * m + dotN m S P F G n) := by
  rw [dot_congr (l := n) (F := F) (F' := F) (G' := fun i => S (vecF m n k i * m + G i)) (fun _ _ => rfl) (fun i hi => R.shf_vec hG hi) n (Nat.le_refl _)]
  exact R.dot_add hF (fun i _ => vec_lt R.hm n k i) hG n (Nat.le_refl _)

theorem ok_get {RR : List (List Int)} {VV : List Int} {k i : Nat} {Z : List Int} (h : okK m S P n RR VV k = true) (hZ : RR[i]? = some Z) : ((dotN m S P (tabOf Z) (vecF m n k) n : Nat) : Int) = VV[i]?.getD 0 := by
  have := of_decide_eq_true h i (List.getElem?_eq_some_iff.1 hZ).1
  rwa [spc_one hZ] at this
theorem ok_of {RR : List (List Int)} {VV : List Int} {k : Nat} (h : ∀ (i : Nat) (Z : List Int), RR[i]? = some Z → ((dotN m S P (tabOf Z) (vecF m n k) n : Nat) : Int) = VV[i]?.getD 0) : okK m S P n RR VV k = true := decide_eq_true fun i hi => by
  have hZ := List.getElem?_eq_getElem hi
  rw [spc_one hZ]
  exact h i _ hZ
/-- A system has no solution, or as many as the dual has vectors. -/
theorem RTab.sol_count (R : RTab m S P e) {RR : List (List Int)} {VV : List Int} (hro : RowsOk m n RR) : solN m S P n RR VV (m ^ n) = [] ∨ (solN m S P n RR VV (m ^ n)).length = (solN m S P n RR (lstF (fun _ => 0) RR.length) (m ^ n)).length := by
  cases hl : solN m S P n RR VV (m ^ n) with
  | nil => exact .inl rfl
  | cons s0 L =>
    right
    rw [← hl]
    have hs0 : s0 ∈ solN m S P n RR VV (m ^ n) := by rw [hl]; simp
    have hok : okK m S P n RR VV s0 = true := (List.mem_filter.1 hs0).2
    have hz : ∀ (i : Nat) (Z : List Int), RR[i]? = some Z → (lstF (fun _ => 0) RR.length)[i]?.getD 0 = 0 := fun i Z hZ => by
      rw [lstF_get (List.getElem?_eq_some_iff.1 hZ).1]
      rfl
    have hv := fun i (_ : i < n) => vec_lt R.hm n s0 i
    have hg : ∀ i, i < n → ngN m S (vecF m n s0 i) < m := fun i _ => R.ng_lt (vec_lt R.hm n s0 i)
    refine Nat.le_antisymm ?_ ?_
    · refine count_inj (shf m n S fun i => ngN m S (vecF m n s0 i)) (fun x _ hx => ⟨R.shf_lt hg x, ok_of fun i Z hZ => ?_⟩) (fun x y hx hy => R.shf_inj hg hx hy)
      obtain ⟨_, hZm, _⟩ := hro i Z hZ
      have h1 := ok_get hx hZ
      have h2 := ok_get hok hZ
      rw [hz i Z hZ, R.shf_dot hg hZm]
      have h3 : dotN m S P (tabOf Z) (vecF m n x) n = dotN m S P (tabOf Z) (vecF m n s0) n := by omega
      rw [h3, ← R.dot_add hZm hv hg n (Nat.le_refl _), dot_congr (l := n) (F := tabOf Z) (F' := tabOf Z) (G' := fun _ => 0) (fun _ _ => rfl) (fun i hi => R.ng_sum (vec_lt R.hm n s0 i)) n (Nat.le_refl _), R.dot_zero hZm n (Nat.le_refl _)]
      rfl
    · refine count_inj (shf m n S (vecF m n s0)) (fun x _ hx => ⟨R.shf_lt hv x, ok_of fun i Z hZ => ?_⟩) (fun x y hx hy => R.shf_inj hv hx hy)
      obtain ⟨_, hZm, _⟩ := hro i Z hZ
      have h1 := ok_get hx hZ
      have h2 := ok_get hok hZ
      rw [hz i Z hZ] at h1
      rw [R.shf_dot hv hZm]
      have h3 : dotN m S P (tabOf Z) (vecF m n x) n = 0 := by omega
      have h4 := R.dlt hZm hv n (Nat.le_refl _)
      rw [h3, R.s.comm R.hm h4, R.s.zero h4]
      exact h2
end

end Go.Proofs.Ytahdkdpliphcnaa

