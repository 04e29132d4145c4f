/- Texts of this seat in one: BA BB BC BD. -/
import Derived.Test.YtlcpbdbdiahmjaaMA
import Derived.Test.YtlcpbdbdiahmjaaMB
import Derived.Lib.BufferMore

/- Plain facts about prime powers: what is valid, exponents, cyclic groups. No program in sight. -/
namespace Go.Proofs.Ytlcpbdbdiahmjaa
open Go.RowKit

/-- The powers of primes up to 16. -/
def pwOk (q : Int) : Bool := decide (q ∈ ([2, 3, 4, 5, 7, 8, 9, 11, 13, 16] : List Int))
theorem pwOk_lo {q : Int} (h : pwOk q = true) : ∃ k : Nat, q = k ∧ 2 ≤ k ∧ k ≤ 16 := by
  have := of_decide_eq_true h
  simp at this
  exact ⟨q.toNat, by omega, by omega, by omega⟩
theorem pwOk_out {q : Int} (h : ¬ (2 ≤ q ∧ q ≤ 16)) : pwOk q = false := by
  rw [Bool.eq_false_iff]
  intro h2
  obtain ⟨k, rfl, h3, h4⟩ := pwOk_lo h2
  omega
/-- Numbers are prime powers, none less than the one before, whose product is at most 16. -/
def vgo : Nat → Nat → List Int → Bool
  | _, _, [] => true
  | s, l, q :: t => pwOk q && (decide ((l : Int) ≤ q) && (decide ((s : Int) * q ≤ 16) && vgo (s * q.toNat) q.toNat t))
def pwV (L : List Int) : Bool := vgo 1 1 L
theorem vgo_pw {s l : Nat} {q : Int} {t : List Int} (h : pwOk q = false) : vgo s l (q :: t) = false := by simp [vgo, h]
theorem vgo_or {s l : Nat} {q : Int} {t : List Int} (h : ¬ (l : Int) ≤ q) : vgo s l (q :: t) = false := by simp [vgo, h]
theorem vgo_sz {s l : Nat} {q : Int} {t : List Int} (h : ¬ (s : Int) * q ≤ 16) : vgo s l (q :: t) = false := by simp [vgo, h]
theorem vgo_go {s l k : Nat} {t : List Int} (h : pwOk (k : Int) = true) (h2 : l ≤ k) (h3 : s * k ≤ 16) : vgo s l ((k : Int) :: t) = vgo (s * k) k t := by
  have e1 : (l : Int) ≤ (k : Int) := by omega
  have e2 : (s : Int) * (k : Int) ≤ 16 := by exact_mod_cast h3
  simp [vgo, h, e1, e2]
theorem vgo_data {s l : Nat} {q : Int} {t : List Int} (h : vgo s l (q :: t) = true) : ∃ k : Nat, q = k ∧ 2 ≤ k ∧ k ≤ 16 ∧ s * k ≤ 16 ∧ vgo (s * k) k t = true := by
  unfold vgo at h
  simp only [Bool.and_eq_true, decide_eq_true_iff] at h
  obtain ⟨h1, h2, h3, h4⟩ := h
  obtain ⟨k, rfl, h5, h6⟩ := pwOk_lo h1
  exact ⟨k, rfl, h5, h6, by exact_mod_cast h3, by simpa using h4⟩
theorem drop_at {L : List Int} {k : Nat} (h : k < L.length) : L.drop k = L[k]?.getD 0 :: L.drop (k + 1) := by
  rw [List.drop_eq_getElem_cons h, List.getElem?_eq_getElem h]
  rfl
/-- The exponent, from what is there. -/
def expG : Nat → List Int → Nat
  | e, [] => e
  | e, q :: t => expG (e / Nat.gcd e q.toNat * q.toNat) t
def expV (L : List Int) : Int := bif pwV L then (expG 1 L : Nat) else -1
/-- No two have a common divisor. -/
def cycG : Nat → List Int → Bool
  | _, [] => true
  | s, q :: t => decide (Nat.gcd s q.toNat ≤ 1) && cycG (s * q.toNat) t
def cycV (L : List Int) : Bool := pwV L && cycG 1 L
theorem exp_no {L : List Int} (h : pwV L = false) : expV L = -1 := by simp [expV, h]
theorem exp_yes {L : List Int} (h : pwV L = true) : expV L = (expG 1 L : Nat) := by simp [expV, h]
theorem cyc_no {L : List Int} (h : pwV L = false) : cycV L = false := by simp [cycV, h]
theorem cyc_yes {L : List Int} (h : pwV L = true) : cycV L = cycG 1 L := by simp [cycV, h]
theorem cycG_no {s k : Nat} {t : List Int} (h : ¬ Nat.gcd s k ≤ 1) : cycG s ((k : Int) :: t) = false := by simp [cycG, h]
theorem cycG_go {s k : Nat} {t : List Int} (h : Nat.gcd s k ≤ 1) : cycG s ((k : Int) :: t) = cycG (s * k) t := by simp [cycG, h]
theorem lcm_two {a b : Nat} : a / Nat.gcd a b * b = a * b / Nat.gcd a b := (Nat.div_mul_right_comm (Nat.gcd_dvd_left a b) b)
theorem lcm_le {a b : Nat} : a / Nat.gcd a b * b ≤ a * b := Nat.mul_le_mul_right _ (Nat.div_le_self _ _)
theorem lcm_pos {a b : Nat} (ha : 1 ≤ a) (hb : 1 ≤ b) : 1 ≤ a / Nat.gcd a b * b := by
  have h1 : 1 ≤ a / Nat.gcd a b := Nat.div_pos (Nat.le_of_dvd ha (Nat.gcd_dvd_left a b)) (Nat.gcd_pos_of_pos_left _ ha)
  exact Nat.mul_pos h1 hb
/-- The product of the first so many. -/
def pdN (L : List Int) : Nat → Nat
  | 0 => 1
  | i + 1 => pdN L i * (L[i]?.getD 0).toNat
theorem cop_all {L : List Int} {q : Nat} (hq : 0 < q) : ∀ i, Nat.gcd (pdN L i) q ≤ 1 ↔ ∀ j, j < i → Nat.gcd q (L[j]?.getD 0).toNat ≤ 1
  | 0 => by simp [pdN]
  | i + 1 => by
    have h1 : ∀ x, Nat.gcd x q ≤ 1 ↔ Nat.Coprime x q := fun x => ⟨fun h => Nat.le_antisymm h (Nat.gcd_pos_of_pos_right _ hq), fun h => Nat.le_of_eq h⟩
    have ih := cop_all (L := L) hq i
    rw [h1, pdN, Nat.coprime_mul_iff_left, ← h1, ← h1, ih, Nat.gcd_comm _ q]
    constructor
    · rintro ⟨h2, h3⟩ j hj
      rcases Nat.lt_or_ge j i with h | h
      · exact h2 j h
      · rw [show j = i by omega]; exact h3
    · intro h
      exact ⟨fun j hj => h j (by omega), h i (by omega)⟩
/-- The least prime that divides a number up to 16. -/
def lpN (n : Nat) : Nat := if n % 2 = 0 then 2 else if n % 3 = 0 then 3 else if n % 5 = 0 then 5 else if n % 7 = 0 then 7 else n
theorem lp_facts : ∀ n, n ≤ 16 → 2 ≤ n → 2 ≤ lpN n ∧ lpN n ≤ n ∧ n % lpN n = 0 ∧ ∀ p, p < lpN n → 2 ≤ p → n % p ≠ 0 := by decide
/-- What is left of a number when it is divided by another one as often as that goes. -/
def stN (p : Nat) : Nat → Nat → Nat
  | 0, q => q
  | f + 1, q => if q % p = 0 then stN p f (q / p) else q
theorem st_one : ∀ n, n ≤ 16 → 2 ≤ n → (stN (lpN n) 5 n ≤ 1 ↔ pwOk (n : Int) = true) := by decide
theorem st_stop {p f q : Nat} (h : q % p ≠ 0) : stN p f q = q := by
  cases f with
  | zero => rfl
  | succ f => exact if_neg h
theorem st_go {p f q : Nat} (h : q % p = 0) : stN p (f + 1) q = stN p f (q / p) := if_pos h
theorem st_lt {p q f : Nat} (hp : 2 ≤ p) (hq : 1 ≤ q) (hf : q < 2 ^ f) (h : q % p = 0) : ∃ f', f = f' + 1 ∧ 1 ≤ q / p ∧ q / p < 2 ^ f' ∧ q / p < q := by
  have h1 : p ≤ q := Nat.le_of_dvd hq (Nat.dvd_of_mod_eq_zero h)
  have h2 : q / p < q := Nat.div_lt_self hq hp
  cases f with
  | zero => omega
  | succ f =>
    refine ⟨f, rfl, Nat.div_pos h1 (by omega), ?_, h2⟩
    rw [Nat.div_lt_iff_lt_mul (by omega)]
    have h3 : 2 ^ f * 2 ≤ 2 ^ f * p := Nat.mul_le_mul_left _ hp
    rw [Nat.pow_succ] at hf
    omega
/-- The primes of the table. -/
def tpN (i : Nat) : Nat := ([2, 3, 5, 7, 11, 13] : List Nat)[i]?.getD 2
def NoP (q : Int) (i : Nat) : Prop := ∀ i', i' < i → ∀ j, tpN i' ^ (j + 1) ≤ 16 → q ≠ ((tpN i' ^ (j + 1) : Nat) : Int)
theorem tp_two : ∀ i, i < 6 → 2 ≤ tpN i ∧ tpN i ≤ 13 := by decide
theorem tp_ok : ∀ i, i < 6 → ∀ k, k < 4 → tpN i ^ (k + 1) ≤ 16 → pwOk ((tpN i ^ (k + 1) : Nat) : Int) = true := by decide
theorem tp_pw {i k : Nat} (hi : i < 6) (h : tpN i ^ (k + 1) ≤ 16) : k < 4 := by
  have h1 : 2 ^ (k + 1) ≤ tpN i ^ (k + 1) := Nat.pow_le_pow_left (tp_two i hi).1 _
  rcases Nat.lt_or_ge k 4 with h2 | h2
  · exact h2
  · have h3 : 2 ^ 5 ≤ 2 ^ (k + 1) := Nat.pow_le_pow_right (by omega) (by omega)
    omega
theorem tp_hit {i k : Nat} {q : Int} (hi : i < 6) (h : tpN i ^ (k + 1) ≤ 16) (hq : q = ((tpN i ^ (k + 1) : Nat) : Int)) : pwOk q = true := by
  rw [hq]; exact tp_ok i hi k (tp_pw hi h) h
theorem tp_next {i k : Nat} {q : Int} (hi : i < 6) (hn : NoP q i) (hk : ∀ j, j < k → q ≠ ((tpN i ^ (j + 1) : Nat) : Int)) (h : ¬ tpN i ^ (k + 1) ≤ 16) : NoP q (i + 1) := by
  intro i' hi' j hj
  rcases Nat.lt_or_ge i' i with h1 | h1
  · exact hn i' h1 j hj
  · obtain rfl : i' = i := by omega
    refine hk j ?_
    rcases Nat.lt_or_ge j k with h2 | h2
    · exact h2
    · have : tpN i' ^ (k + 1) ≤ tpN i' ^ (j + 1) := Nat.pow_le_pow_right (by have := tp_two i' hi; omega) (by omega)
      omega
theorem tp_miss {q : Int} (h : NoP q 6) : pwOk q = false := by
  rw [Bool.eq_false_iff]
  intro h2
  have h3 := of_decide_eq_true h2
  simp only [List.mem_cons, List.not_mem_nil, or_false] at h3
  rcases h3 with e | e | e | e | e | e | e | e | e | e
  · exact h 0 (by omega) 0 (by decide) e
  · exact h 1 (by omega) 0 (by decide) e
  · exact h 0 (by omega) 1 (by decide) e
  · exact h 2 (by omega) 0 (by decide) e
  · exact h 3 (by omega) 0 (by decide) e
  · exact h 0 (by omega) 2 (by decide) e
  · exact h 1 (by omega) 1 (by decide) e
  · exact h 4 (by omega) 0 (by decide) e
  · exact h 5 (by omega) 0 (by decide) e
  · exact h 0 (by omega) 3 (by decide) e

end Go.Proofs.Ytlcpbdbdiahmjaa



/- Common divisors and multiples, powers of primes: both sides. -/
namespace Go.Proofs.Ytlcpbdbdiahmjaa
open Go.RowKit
set_option maxRecDepth 100000

set_option maxHeartbeats 1000000 in
theorem gcd_any (a b : Nat) (w : World) (ha : a ≤ 1000) (hb : b ≤ 1000) :
    Calls Try.prog 69 #[.int .i64 a, .int .i64 b] w fun e w' => e = .returned (.int .i64 (Nat.gcd a b : Nat)) ∧ Below w.heap.size w w' := by
  obtain ⟨d, hd⟩ : ∃ d, Nat.gcd a b = d := ⟨_, rfl⟩
  have HD := Lib.hid hd
  rw [hd]
  clear hd
  go_enter Try.func69, Try.ntmps69
  go_wp2
  go_loopg [0, 1] (b + 1) (fun g va vb wr => ∃ x y : Nat, va = .int .i64 x ∧ vb = .int .i64 y ∧ x ≤ 1000 ∧ y ≤ 1000 ∧ y < g ∧ Hid (Nat.gcd x y = d) ∧ Below w.heap.size w wr)
  case atStart => exact ⟨a, b, rfl, rfl, ha, hb, by omega, HD, Below.refl _ _⟩
  case round =>
    obtain ⟨x, y, rfl, rfl, hx, hy, hyg, hg, hbel⟩ := hrel
    have BW := Lib.hid hbel
    clear hbel
    by_cases hlt : 0 < y
    · have n3 : ¬ y = 0 := by omega
      have hm : x % y < y := Nat.mod_lt _ hlt
      have e2 : (x : Int) % y = ((x % y : Nat) : Int) := by simp
      have E2 := Lib.hid e2
      clear e2
      go_wp2
      go_region
      go_wp2
      go_roundg (x % y + 1)
      case measure => omega
      case rel => exact ⟨y, x % y, rfl, by rw [E2.out], hy, by omega, by omega, Lib.hid (by rw [Nat.gcd_comm, ← Nat.gcd_rec, Nat.gcd_comm]; exact hg.out), BW.out.drew⟩
    · have hy0 : y = 0 := by omega
      subst hy0
      have HE := Lib.hid (show x = d from (Nat.gcd_zero_right x).symm.trans hg.out)
      go_wp2
      go_ret
      exact ⟨ret_int (by rw [HE.out]), BW.out⟩

set_option maxHeartbeats 1000000 in
theorem sgcd_any (a b : Nat) (w : World) (ha : a ≤ 1000) (hb : b ≤ 1000) :
    Calls Try.prog 83 #[.int .i64 a, .int .i64 b] w fun e w' => e = .returned (.int .i64 (Nat.gcd a b : Nat)) ∧ w = w' := by
  obtain ⟨d, hd⟩ : ∃ d, Nat.gcd a b = d := ⟨_, rfl⟩
  have HD := Lib.hid hd
  rw [hd]
  clear hd
  go_enter Try.func83, Try.ntmps83
  go_wp2
  go_loop [0, 1] (fun va vb => ∃ x y : Nat, va = .int .i64 x ∧ vb = .int .i64 y ∧ x ≤ 1000 ∧ y ≤ 1000 ∧ Hid (Nat.gcd x y = d)) (fun _ vb => (intOf vb).toNat)
  case atStart => exact ⟨a, b, rfl, rfl, ha, hb, HD⟩
  case round =>
    obtain ⟨x, y, rfl, rfl, hx, hy, hg⟩ := hrel
    by_cases hlt : 0 < y
    · have n3 : ¬ y = 0 := by omega
      have n4 : ((y : Int) != 0) = true := by simp; omega
      have hm : x % y < y := Nat.mod_lt _ hlt
      have e2 : (x : Int) % y = ((x % y : Nat) : Int) := by simp
      have E2 := Lib.hid e2
      clear e2
      go_wp2
      go_round
      case rel => exact ⟨y, x % y, rfl, by rw [E2.out], hy, by omega, Lib.hid (by rw [Nat.gcd_comm, ← Nat.gcd_rec, Nat.gcd_comm]; exact hg.out)⟩
      case measure => simp [intOf]; omega
    · have hy0 : y = 0 := by omega
      subst hy0
      have HE := Lib.hid (show x = d from (Nat.gcd_zero_right x).symm.trans hg.out)
      go_wp2
      go_ret
      exact ⟨ret_int (by rw [HE.out]), rfl⟩

set_option maxHeartbeats 1000000 in
theorem lcm_any (a b : Nat) (w : World) (ha : a ≤ 1000) (hb : b ≤ 1000) (ha1 : 1 ≤ a) :
    Calls Try.prog 68 #[.int .i64 a, .int .i64 b] w fun e w' => e = .returned (.int .i64 (a / Nat.gcd a b * b : Nat)) ∧ Below w.heap.size w w' := by
  have hg1 : 0 < Nat.gcd a b := Nat.gcd_pos_of_pos_left _ ha1
  obtain ⟨d, hd⟩ : ∃ d, Nat.gcd a b = d := ⟨_, rfl⟩
  have HD := Lib.hid hd
  rw [hd] at hg1 ⊢
  clear hd
  have n3 : ¬ d = 0 := by omega
  have hq : a / d ≤ 1000 := Nat.le_trans (Nat.div_le_self _ _) ha
  obtain ⟨q, hq'⟩ : ∃ q, a / d = q := ⟨_, rfl⟩
  have e1 : (a : Int) / d = (q : Int) := by rw [← hq']; simp
  rw [hq'] at hq ⊢
  have hp : q * b ≤ 1000000 := Nat.mul_le_mul hq hb
  have hp2 : (q : Int) * (b : Int) = ((q * b : Nat) : Int) := by simp
  have hw : IntKind.i64.wrap ((q : Int) * (b : Int)) = ((q * b : Nat) : Int) := by rw [hp2]; exact IntWalk.i64_in _ (by constructor <;> omega)
  have hw0 : IntKind.i64.wrap ((a : Int) / d) = (q : Int) := by rw [e1]; exact IntWalk.i64_in _ (by constructor <;> omega)
  have hw1 : wrap64 ((a : Int) / d) = (q : Int) := by rw [e1]; exact IntWalk.wrap64_in _ (by constructor <;> omega)
  clear hq' hp2 hp
  go_enter Try.func68, Try.ntmps68
  go_wp2_with (go_at_call 69; refine (gcd_any a b _ ha hb).mono ?_; rintro e1 w1 ⟨rfl, hb1⟩; rw [HD.out])
  go_ret
  exact ⟨rfl, hb1⟩

/-- The table of primes. -/
def tpA : Array Value := #[.int .i64 2, .int .i64 3, .int .i64 5, .int .i64 7, .int .i64 11, .int .i64 13]
theorem tp_get : ∀ i, i < 6 → tpA[i]? = some (.int .i64 (tpN i : Int))
  | 0, _ => rfl
  | 1, _ => rfl
  | 2, _ => rfl
  | 3, _ => rfl
  | 4, _ => rfl
  | 5, _ => rfl
  | _ + 6, h => absurd h (by omega)
theorem index_tp (w : World) (j : Nat) (p : Nat) (hj : j < 6) (hp : tpN j = p) : (Instr.index 104 (.agg tpA) (.int .i64 (j : Int))).run Try.prog w = .ok (.int .i64 (p : Int)) w := by
  obtain ⟨i0, hi, _⟩ := info_parts (P := Try.prog) int_info
  have hs := run_sizeOf (P := Try.prog) w hi
  have hc : Try.prog.cellsOf 3 = 1 := by kernel_rfl
  have h1 : (0 : Int) ≤ (j : Int) ∧ (j : Int) < ((6 : Nat) : Int) := by omega
  have hg := tp_get j hj
  simp [Instr.index, run_underlying Try.underlying104, asIntOf, h1, go_sem, hs, hc, hj, hg, hp]

set_option maxHeartbeats 1000000 in
theorem isPP_any (q : Int) (w : World) :
    Calls Try.prog 96 #[.int .i64 q] w fun e w' => e = .returned (.bool (pwOk q)) ∧ w = w' := by
  go_enter Try.func96, Try.ntmps96
  go_wp2
  rw [show (#[.int .i64 2, .int .i64 3, .int .i64 5, .int .i64 7, .int .i64 11, .int .i64 13] : Array Value) = tpA from rfl]
  go_loop [7] (fun vi => ∃ i : Nat, i ≤ 6 ∧ vi = .int .i64 i ∧ Hid (NoP q i)) (fun vi => 6 - (intOf vi).toNat)
  case atStart => exact ⟨0, Nat.zero_le _, rfl, Lib.hid fun j hj => absurd hj (by omega)⟩
  case round =>
    obtain ⟨i, hi, rfl, hn⟩ := hrel
    by_cases hlt : i < 6
    · obtain ⟨p, hp⟩ : ∃ p, tpN i = p := ⟨_, rfl⟩
      have hix := index_tp w i p hlt hp
      have htp := tp_two i hlt
      have HP := Lib.hid hp
      rw [hp] at htp
      clear hp
      go_wp2
      go_loop [5] (fun vp => ∃ k x : Nat, k ≤ 4 ∧ vp = .int .i64 x ∧ 1 ≤ x ∧ x ≤ 208 ∧ Hid (x = p ^ (k + 1)) ∧ Hid (∀ j, j < k → q ≠ ((tpN i ^ (j + 1) : Nat) : Int))) (fun vp => 300 - (intOf vp).toNat)
      case atStart => exact ⟨0, p, by omega, rfl, by omega, by omega, Lib.hid (by simp), Lib.hid fun j hj => absurd hj (by omega)⟩
      case round =>
        obtain ⟨k, x, hk, rfl, hx1, hx2, hx, hne⟩ := hrel
        by_cases h16 : x ≤ 16
        · have hpk : tpN i ^ (k + 1) ≤ 16 := by rw [HP.out, ← hx.out]; exact h16
          have hk4 := tp_pw hlt hpk
          have h16i : (x : Int) ≤ 16 := by omega
          by_cases he : q = x
          · have HZ := Lib.hid (tp_hit (q := q) hlt hpk (by rw [HP.out, ← hx.out]; exact he))
            have te : ((x : Int) == q) = true := by rw [beq_iff_eq]; exact he.symm
            clear hpk he
            go_wp2
            go_ret
            exact ⟨ret_bool HZ.out.symm, rfl⟩
          · have HN := Lib.hid (show ∀ j, j < k + 1 → q ≠ ((tpN i ^ (j + 1) : Nat) : Int) from forall_succ hne.out (by rw [HP.out, ← hx.out]; exact he))
            have te : ((x : Int) == q) = false := by rw [beq_eq_false_iff_ne]; exact fun h => he h.symm
            have hxp : x * p ≤ 16 * 13 := Nat.mul_le_mul h16 htp.2
            have hxl : x * 2 ≤ x * p := Nat.mul_le_mul_left _ htp.1
            have hcast : (x : Int) * (p : Int) = ((x * p : Nat) : Int) := by simp
            have HX := Lib.hid (show x * p = p ^ (k + 1 + 1) by rw [Nat.pow_succ, ← hx.out])
            obtain ⟨y, hy⟩ : ∃ y, x * p = y := ⟨_, rfl⟩
            rw [hy] at hxp hxl hcast HX
            have hw : IntKind.i64.wrap ((x : Int) * (p : Int)) = y := by rw [hcast]; exact IntWalk.i64_in _ (by constructor <;> omega)
            clear hpk he hy hcast
            go_wp2
            go_round
            case rel => exact ⟨k + 1, y, by omega, rfl, by omega, by omega, HX, HN⟩
            case measure => simp [intOf]; omega
        · have h16i : ¬ (x : Int) ≤ 16 := by omega
          have HN := Lib.hid (tp_next hlt hn.out hne.out (by rw [HP.out, ← hx.out]; exact h16))
          go_wp2
          go_round
          case rel => exact ⟨i + 1, by omega, by go_num, HN⟩
          case measure => simp [intOf]; omega
    · have hi6 : i = 6 := by omega
      subst hi6
      have hz := Lib.hid (tp_miss hn.out)
      go_wp2
      go_ret
      exact ⟨ret_bool hz.out.symm, rfl⟩

end Go.Proofs.Ytlcpbdbdiahmjaa



/- arePowers, IsCyclic and ExponentOf of the program. -/
namespace Go.Proofs.Ytlcpbdbdiahmjaa
open Go.RowKit
set_option maxRecDepth 100000

set_option maxHeartbeats 2000000 in
theorem areP_any (C : Option Addr) (len cap : Nat) (L : List Int) (w : World) (E : Nat) (hL : Ints w E C len L) (hl : len ≤ 9223372036854775807) :
    Calls Try.prog 67 #[.slice C len cap] w fun e w' => e = .returned (.bool (pwV L)) ∧ w = w' := by
  have HL := Lib.hid hL
  have HN := Lib.hid hL.1
  obtain ⟨Z, hZ⟩ : ∃ Z, pwV L = Z := ⟨_, rfl⟩
  have HZ := Lib.hid hZ
  rw [hZ]
  clear hL hZ
  go_enter Try.func67, Try.ntmps67
  go_wp2
  go_loop [3, 4, 9] (fun vs vl vi => ∃ s l k : Nat, k ≤ len ∧ vs = .int .i64 s ∧ vl = .int .i64 l ∧ vi = .int .i64 k ∧ s ≤ 16 ∧ l ≤ 16 ∧ Hid (vgo s l (L.drop k) = Z)) (fun _ _ vi => len - (intOf vi).toNat)
  case atStart => exact ⟨1, 1, 0, Nat.zero_le _, rfl, rfl, rfl, by omega, by omega, HZ⟩
  case round =>
    obtain ⟨s, l, k, hk, rfl, rfl, rfl, hs, hl16, hv⟩ := hrel
    by_cases hlt : k < len
    · obtain ⟨b, off, rfl, _, hc⟩ := HL.out.at_ hlt
      obtain ⟨q, hq⟩ : ∃ q, L[k]?.getD 0 = q := ⟨_, rfl⟩
      have hv2 := hv.out
      rw [drop_at (by rw [HN.out]; exact hlt), hq] at hv2
      rw [hq] at hc
      have HV := Lib.hid hv2
      clear hv2 hq
      by_cases hor : (l : Int) ≤ q
      · cases hp : pwOk q
        · have HF := Lib.hid ((vgo_pw hp).symm.trans HV.out)
          have hor' : ¬ q < (l : Int) := by omega
          have HP := Lib.hid hp
          clear hp
          go_wp2_with (go_at_call 96; refine (isPP_any _ _).mono ?_; rintro e1 w1 ⟨rfl, rfl⟩; rw [HP.out])
          go_ret
          exact ⟨ret_bool HF.out, rfl⟩
        · obtain ⟨n, rfl, hn2, hn16⟩ := pwOk_lo hp
          have hor' : ¬ (n : Int) < (l : Int) := by omega
          have hcast : (s : Int) * (n : Int) = ((s * n : Nat) : Int) := by simp
          have hsn : s * n ≤ 16 * 16 := Nat.mul_le_mul hs hn16
          have HP := Lib.hid hp
          by_cases hsz : s * n ≤ 16
          · have HG := Lib.hid ((vgo_go hp (by omega) hsz).symm.trans HV.out)
            obtain ⟨y, hy⟩ : ∃ y, s * n = y := ⟨_, rfl⟩
            rw [hy] at hsn hcast hsz HG
            have hw : IntKind.i64.wrap ((s : Int) * (n : Int)) = y := by rw [hcast]; exact IntWalk.i64_in _ (by constructor <;> omega)
            have hy16 : ¬ (16 : Int) < (y : Int) := by omega
            clear hp hcast hy
            go_wp2_with (go_at_call 96; refine (isPP_any _ _).mono ?_; rintro e1 w1 ⟨rfl, rfl⟩; rw [HP.out])
            go_round
            case rel => exact ⟨y, n, k + 1, by omega, rfl, rfl, by go_num, hsz, hn16, HG⟩
            case measure => simp [intOf]; omega
          · have HF := Lib.hid ((vgo_sz (by rw [hcast]; omega)).symm.trans HV.out)
            obtain ⟨y, hy⟩ : ∃ y, s * n = y := ⟨_, rfl⟩
            rw [hy] at hsn hcast hsz
            have hw : IntKind.i64.wrap ((s : Int) * (n : Int)) = y := by rw [hcast]; exact IntWalk.i64_in _ (by constructor <;> omega)
            have hy16 : (16 : Int) < (y : Int) := by omega
            clear hp hcast hy
            go_wp2_with (go_at_call 96; refine (isPP_any _ _).mono ?_; rintro e1 w1 ⟨rfl, rfl⟩; rw [HP.out])
            go_ret
            exact ⟨ret_bool HF.out, rfl⟩
      · have HF := Lib.hid ((vgo_or hor).symm.trans HV.out)
        have hor' : q < (l : Int) := by omega
        clear hor
        go_wp2
        go_ret
        exact ⟨ret_bool HF.out, rfl⟩
    · have hkm : k = len := by omega
      subst hkm
      have HF := Lib.hid (show true = Z by rw [← hv.out, List.drop_eq_nil_of_le (by rw [HN.out]; exact Nat.le_refl _)]; rfl)
      go_wp2
      go_ret
      exact ⟨ret_bool HF.out, rfl⟩

set_option maxHeartbeats 2000000 in
theorem cyc_any (C : Option Addr) (len cap : Nat) (L : List Int) (w : World) (hL : Ints w w.heap.size C len L) (hl : len ≤ 9223372036854775807) :
    Calls Try.prog 22 #[.slice C len cap] w fun e w' => e = .returned (.bool (cycV L)) ∧ Below w.heap.size w w' := by
  have HL := Lib.hid hL
  have HN := Lib.hid hL.1
  have HP := Lib.hid (areP_any C len cap L w w.heap.size hL hl)
  cases hv : pwV L
  · have hz := Lib.hid (cyc_no hv)
    have HV := Lib.hid hv
    clear hL hv
    go_enter Try.func22, Try.ntmps22
    go_wp2_with (go_at_call 67; refine HP.out.mono ?_; rintro e1 w1 ⟨rfl, rfl⟩; rw [HV.out])
    go_ret
    exact ⟨ret_bool hz.out.symm, Below.refl _ _⟩
  · have hz := Lib.hid (cyc_yes hv)
    have HV := Lib.hid hv
    obtain ⟨Z, hZ⟩ : ∃ Z, cycG 1 L = Z := ⟨_, rfl⟩
    have HZ := Lib.hid hZ
    have V0 := Lib.hid (show vgo 1 1 L = true from hv)
    clear hL hv hZ
    go_enter Try.func22, Try.ntmps22
    go_wp2_with (go_at_call 67; refine HP.out.mono ?_; rintro e1 w1 ⟨rfl, rfl⟩; rw [HV.out])
    go_loopg [3, 11] len (fun g vs vi wr => ∃ s l k : Nat, k ≤ len ∧ len ≤ k + g ∧ vs = .int .i64 s ∧ vi = .int .i64 k ∧ 1 ≤ s ∧ s ≤ 16 ∧ Hid (vgo s l (L.drop k) = true) ∧ Hid (cycG s (L.drop k) = Z) ∧ Below w.heap.size w wr)
    case atStart => exact ⟨1, 1, 0, Nat.zero_le _, by omega, rfl, rfl, by omega, by omega, V0, HZ, Below.refl _ _⟩
    case round =>
      obtain ⟨s, l, k, hk, hg, rfl, rfl, hs1, hs, hv, hc, hb⟩ := hrel
      have BW := Lib.hid hb
      clear hb
      by_cases hlt : k < len
      · obtain ⟨b, off, rfl, _, hcc⟩ := (HL.out.next BW.out).at_ hlt
        obtain ⟨q, hq⟩ : ∃ q, L[k]?.getD 0 = q := ⟨_, rfl⟩
        have hd := drop_at (L := L) (k := k) (by rw [HN.out]; exact hlt)
        rw [hq] at hd hcc
        have hv2 := hv.out
        have hc2 := hc.out
        rw [hd] at hv2 hc2
        obtain ⟨n, rfl, hn2, hn16, hsn, hv3⟩ := vgo_data hv2
        have HV3 := Lib.hid hv3
        have HC2 := Lib.hid hc2
        clear hv2 hc2 hd hq hv3
        have GC := Lib.hid (gcd_any s n wr (by omega) (by omega))
        by_cases hg1 : Nat.gcd s n ≤ 1
        · have HC3 := Lib.hid ((cycG_go hg1).symm.trans HC2.out)
          obtain ⟨d, hd⟩ : ∃ d, Nat.gcd s n = d := ⟨_, rfl⟩
          rw [hd] at GC hg1
          have hg1i : ¬ (1 : Int) < (d : Int) := by omega
          have hcast : (s : Int) * (n : Int) = ((s * n : Nat) : Int) := by simp
          have hp1 : 1 ≤ s * n := Nat.mul_pos hs1 (by omega)
          obtain ⟨y, hy⟩ : ∃ y, s * n = y := ⟨_, rfl⟩
          rw [hy] at hsn hcast HV3 HC3 hp1
          have hw : IntKind.i64.wrap ((s : Int) * (n : Int)) = y := by rw [hcast]; exact IntWalk.i64_in _ (by constructor <;> omega)
          clear hcast hy hd
          go_wp2_with (go_at_call 69; refine GC.out.mono ?_; rintro e1 w1 ⟨rfl, hb1⟩; have B1 := Lib.hid (BW.out.trans (hb1.mono BW.out.size)); clear hb1)
          go_roundg (len - (k + 1))
          case measure => omega
          case rel => exact ⟨y, n, k + 1, by omega, by omega, rfl, by go_num, hp1, hsn, HV3, HC3, B1.out⟩
        · have HC3 := Lib.hid ((cycG_no hg1).symm.trans HC2.out)
          obtain ⟨d, hd⟩ : ∃ d, Nat.gcd s n = d := ⟨_, rfl⟩
          rw [hd] at GC hg1
          have hg1i : (1 : Int) < (d : Int) := by omega
          clear hd
          go_wp2_with (go_at_call 69; refine GC.out.mono ?_; rintro e1 w1 ⟨rfl, hb1⟩; have B1 := Lib.hid (BW.out.trans (hb1.mono BW.out.size)); clear hb1)
          go_ret
          exact ⟨ret_bool (by rw [hz.out, HZ.out]; exact HC3.out), B1.out⟩
      · have hkm : k = len := by omega
        subst hkm
        have HF := Lib.hid (show true = Z by rw [← hc.out, List.drop_eq_nil_of_le (by rw [HN.out]; exact Nat.le_refl _)]; rfl)
        go_wp2
        go_ret
        exact ⟨ret_bool (by rw [hz.out, HZ.out]; exact HF.out), BW.out⟩

set_option maxHeartbeats 2000000 in
theorem exp_any (C : Option Addr) (len cap : Nat) (L : List Int) (w : World) (hL : Ints w w.heap.size C len L) (hl : len ≤ 9223372036854775807) :
    Calls Try.prog 21 #[.slice C len cap] w fun e w' => e = .returned (.int .i64 (expV L)) ∧ Below w.heap.size w w' := by
  have HL := Lib.hid hL
  have HN := Lib.hid hL.1
  have HP := Lib.hid (areP_any C len cap L w w.heap.size hL hl)
  cases hv : pwV L
  · have hz := Lib.hid (exp_no hv)
    have HV := Lib.hid hv
    clear hL hv
    go_enter Try.func21, Try.ntmps21
    go_wp2_with (go_at_call 67; refine HP.out.mono ?_; rintro e1 w1 ⟨rfl, rfl⟩; rw [HV.out])
    go_ret
    exact ⟨ret_int hz.out.symm, Below.refl _ _⟩
  · have hz := Lib.hid (exp_yes hv)
    have HV := Lib.hid hv
    obtain ⟨Z, hZ⟩ : ∃ Z, expG 1 L = Z := ⟨_, rfl⟩
    have HZ := Lib.hid hZ
    have V0 := Lib.hid (show vgo 1 1 L = true from hv)
    clear hL hv hZ
    go_enter Try.func21, Try.ntmps21
    go_wp2_with (go_at_call 67; refine HP.out.mono ?_; rintro e1 w1 ⟨rfl, rfl⟩; rw [HV.out])
    go_loopg [3, 11] len (fun g vs vi wr => ∃ x s l k : Nat, k ≤ len ∧ len ≤ k + g ∧ vs = .int .i64 x ∧ vi = .int .i64 k ∧ 1 ≤ x ∧ x ≤ s ∧ s ≤ 16 ∧ Hid (vgo s l (L.drop k) = true) ∧ Hid (expG x (L.drop k) = Z) ∧ Below w.heap.size w wr)
    case atStart => exact ⟨1, 1, 1, 0, Nat.zero_le _, by omega, rfl, rfl, by omega, by omega, by omega, V0, HZ, Below.refl _ _⟩
    case round =>
      obtain ⟨x, s, l, k, hk, hg, rfl, rfl, hx1, hxs, hs, hv, hc, hb⟩ := hrel
      have BW := Lib.hid hb
      clear hb
      by_cases hlt : k < len
      · obtain ⟨b, off, rfl, _, hcc⟩ := (HL.out.next BW.out).at_ hlt
        obtain ⟨q, hq⟩ : ∃ q, L[k]?.getD 0 = q := ⟨_, rfl⟩
        have hd := drop_at (L := L) (k := k) (by rw [HN.out]; exact hlt)
        rw [hq] at hd hcc
        have hv2 := hv.out
        have hc2 := hc.out
        rw [hd] at hv2 hc2
        obtain ⟨n, rfl, hn2, hn16, hsn, hv3⟩ := vgo_data hv2
        have HV3 := Lib.hid hv3
        have HC3 := Lib.hid (show expG (x / Nat.gcd x n * n) (L.drop (k + 1)) = Z from hc2)
        have LC := Lib.hid (lcm_any x n wr (by omega) (by omega) hx1)
        have h1 := lcm_pos hx1 (show 1 ≤ n by omega)
        have h2 : x / Nat.gcd x n * n ≤ s * n := Nat.le_trans lcm_le (Nat.mul_le_mul_right _ hxs)
        obtain ⟨y, hy⟩ : ∃ y, x / Nat.gcd x n * n = y := ⟨_, rfl⟩
        rw [hy] at HC3 LC h1 h2
        clear hv2 hc2 hd hq hv3 hy
        go_wp2_with (go_at_call 68; refine LC.out.mono ?_; rintro e1 w1 ⟨rfl, hb1⟩; have B1 := Lib.hid (BW.out.trans (hb1.mono BW.out.size)); clear hb1)
        go_roundg (len - (k + 1))
        case measure => omega
        case rel => exact ⟨y, s * n, n, k + 1, by omega, by omega, rfl, by go_num, h1, h2, hsn, HV3, HC3, B1.out⟩
      · have hkm : k = len := by omega
        subst hkm
        have HF := Lib.hid (show x = Z by rw [← hc.out, List.drop_eq_nil_of_le (by rw [HN.out]; exact Nat.le_refl _)]; rfl)
        go_wp2
        go_ret
        exact ⟨ret_int (by rw [hz.out, HZ.out, HF.out]), BW.out⟩

end Go.Proofs.Ytlcpbdbdiahmjaa



/- l11Prime, l11Valid, IsCyclic and ExponentOf of the reading side. -/
namespace Go.Proofs.Ytlcpbdbdiahmjaa
open Go.RowKit
set_option maxRecDepth 100000

set_option maxHeartbeats 1000000 in
theorem sprime_any (n : Nat) (w : World) (h2 : 2 ≤ n) (h16 : n ≤ 16) :
    Calls Try.prog 97 #[.int .i64 n] w fun e w' => e = .returned (.int .i64 (lpN n : Nat)) ∧ w = w' := by
  obtain ⟨f1, f2, f3, f4⟩ := lp_facts n h16 h2
  obtain ⟨z, hz⟩ : ∃ z, lpN n = z := ⟨_, rfl⟩
  rw [hz] at f1 f2 f3 f4 ⊢
  have F3 := Lib.hid f3
  have F4 := Lib.hid f4
  clear f3 f4 hz
  go_enter Try.func97, Try.ntmps97
  go_wp2
  go_loop [3] (fun vp => ∃ p : Nat, vp = .int .i64 p ∧ 2 ≤ p ∧ p ≤ z) (fun vp => 20 - (intOf vp).toNat)
  case atStart => exact ⟨2, rfl, by omega, f1⟩
  case round =>
    obtain ⟨p, rfl, hp2, hpz⟩ := hrel
    have n3 : ¬ p = 0 := by omega
    have e2 : (n : Int) % p = ((n % p : Nat) : Int) := by simp
    by_cases hm : n % p = 0
    · have te : (((n : Int) % p) == 0) = true := by rw [beq_iff_eq, e2, hm]; rfl
      have HE := Lib.hid (show p = z by
        rcases Nat.lt_or_ge p z with h | h
        · exact absurd hm (F4.out p h hp2)
        · omega)
      clear e2 hm
      go_wp2
      go_ret
      exact ⟨ret_int (by rw [HE.out]), rfl⟩
    · have te : (((n : Int) % p) == 0) = false := by rw [beq_eq_false_iff_ne, e2]; omega
      have hlt : p ≠ z := fun h => hm (by rw [h]; exact F3.out)
      have hp3 : p < z := by omega
      clear e2 hm
      go_wp2
      go_round
      case rel => exact ⟨p + 1, by go_num, by omega, by omega⟩
      case measure => simp [intOf]; omega

set_option maxHeartbeats 4000000 in
theorem svalid11_any (C : Option Addr) (len cap : Nat) (L : List Int) (w : World) (E : Nat) (hL : Ints w E C len L) (hl : len ≤ 9223372036854775807) :
    Calls Try.prog 82 #[.slice C len cap] w fun e w' => e = .returned (.bool (pwV L)) ∧ w = w' := by
  have HL := Lib.hid hL
  have HN := Lib.hid hL.1
  obtain ⟨Z, hZ⟩ : ∃ Z, pwV L = Z := ⟨_, rfl⟩
  have HZ := Lib.hid hZ
  rw [hZ]
  clear hL hZ
  go_enter Try.func82, Try.ntmps82
  go_wp2
  go_loop [3, 9] (fun vs vi => ∃ s l k : Nat, k ≤ len ∧ vs = .int .i64 s ∧ vi = .int .i64 k ∧ s ≤ 16 ∧ l ≤ 16 ∧ Hid (k = 0 → l = 1) ∧ Hid (k ≠ 0 → L[k - 1]?.getD 0 = (l : Int)) ∧ Hid (vgo s l (L.drop k) = Z)) (fun _ vi => len - (intOf vi).toNat)
  case atStart => exact ⟨1, 1, 0, Nat.zero_le _, rfl, rfl, by omega, by omega, Lib.hid fun _ => rfl, Lib.hid fun h => absurd rfl h, HZ⟩
  case round =>
    obtain ⟨s, l, k, hk, rfl, rfl, hs, hl16, hl1, hlp, hv⟩ := hrel
    by_cases hlt : k < len
    · obtain ⟨b, off, rfl, _, hc⟩ := HL.out.at_ hlt
      obtain ⟨q, hq⟩ : ∃ q, L[k]?.getD 0 = q := ⟨_, rfl⟩
      have HQ := Lib.hid hq
      have hv2 := hv.out
      rw [drop_at (by rw [HN.out]; exact hlt), hq] at hv2
      rw [hq] at hc
      have HV := Lib.hid hv2
      clear hv2 hq
      by_cases hin : 2 ≤ q ∧ q ≤ 16
      rotate_left
      · have HF := Lib.hid ((vgo_pw (pwOk_out hin)).symm.trans HV.out)
        have hi := inC_false hin
        go_wp2_with (go_at_call 45; refine (l1In_any _ _ _ _).mono ?_; rintro e1 w1 ⟨rfl, rfl⟩; rw [hi])
        go_ret
        exact ⟨ret_bool HF.out, rfl⟩
      have hi := Lib.hid (inC_true hin)
      obtain ⟨n, rfl⟩ : ∃ n : Nat, q = n := ⟨q.toNat, by omega⟩
      have hn2 : 2 ≤ n := by omega
      have hn16 : n ≤ 16 := by omega
      obtain ⟨p1, p2, p3, p4⟩ := lp_facts n hn16 hn2
      have hp2 := p1
      have SO := Lib.hid (st_one n hn16 hn2)
      have PR := Lib.hid (sprime_any n w hn2 hn16)
      obtain ⟨p, hp⟩ : ∃ p, lpN n = p := ⟨_, rfl⟩
      rw [hp] at SO PR hp2
      obtain ⟨z, hz⟩ : ∃ z, stN p 5 n = z := ⟨_, rfl⟩
      rw [hz] at SO
      have HZ2 := Lib.hid hz
      have hcast : (s : Int) * (n : Int) = ((s * n : Nat) : Int) := by simp
      have hsn : s * n ≤ 16 * 16 := Nat.mul_le_mul hs hn16
      obtain ⟨y, hy⟩ : ∃ y, s * n = y := ⟨_, rfl⟩
      have HY := Lib.hid hy
      rw [hy] at hsn hcast
      have hw : IntKind.i64.wrap ((s : Int) * (n : Int)) = y := by rw [hcast]; exact IntWalk.i64_in _ (by constructor <;> omega)
      clear hp hz hin p1 p2 p3 p4 hy
      by_cases hk0 : k = 0
      · have hl' := hl1.out hk0
        have hll : l ≤ n := by omega
        have tk0 : ¬ (0 : Int) < (k : Int) := by omega
        clear hl1 hlp hk0
        go_wp2_with (first
          | (go_at_call 45; refine (l1In_any _ _ _ _).mono ?_; rintro e1 w1 ⟨rfl, rfl⟩; rw [hi.out])
          | (go_at_call 97; refine PR.out.mono ?_; rintro e2 w2 ⟨rfl, rfl⟩))
        go_loop [5] (fun vq => ∃ x f : Nat, vq = .int .i64 x ∧ 1 ≤ x ∧ x ≤ 16 ∧ Hid (x < 2 ^ f) ∧ Hid (stN p f x = z)) (fun vq => (intOf vq).toNat)
        case atStart => exact ⟨n, 5, rfl, by omega, hn16, Lib.hid (by omega), HZ2⟩
        case round =>
          obtain ⟨x, f, rfl, hx1, hx16, hxf, hst⟩ := hrel
          have n3 : ¬ p = 0 := by omega
          have e2 : (x : Int) % p = ((x % p : Nat) : Int) := by simp
          by_cases hm : x % p = 0
          · obtain ⟨f', rfl, h1, h2, h3⟩ := st_lt hp2 hx1 hxf.out hm
            have HS := Lib.hid ((st_go hm).symm.trans hst.out)
            have te : (((x : Int) % p) == 0) = true := by rw [beq_iff_eq, e2, hm]; rfl
            have e3 : (x : Int) / p = ((x / p : Nat) : Int) := by simp
            obtain ⟨y2, hy2⟩ : ∃ y2, x / p = y2 := ⟨_, rfl⟩
            rw [hy2] at h1 h2 h3 HS e3
            have h2' := Lib.hid h2
            have h16' : y2 ≤ 16 := by omega
            have hw0 : IntKind.i64.wrap ((x : Int) / p) = (y2 : Int) := by rw [e3]; exact IntWalk.i64_in _ (by constructor <;> omega)
            have hw1 : wrap64 ((x : Int) / p) = (y2 : Int) := by rw [e3]; exact IntWalk.wrap64_in _ (by constructor <;> omega)
            clear e2 hm h2 hy2 e3
            go_wp2
            go_round
            case rel => exact ⟨y2, f', rfl, h1, h16', h2', HS⟩
            case measure => simpa [intOf] using h3
          · have hxz : x = z := (st_stop hm).symm.trans hst.out
            have te : (((x : Int) % p) == 0) = false := by rw [beq_eq_false_iff_ne, e2]; omega
            clear e2 hm
            cases hpw : pwOk (n : Int)
            · have HF := Lib.hid ((vgo_pw hpw).symm.trans HV.out)
              have hx : (1 : Int) < (x : Int) := by
                have : ¬ z ≤ 1 := fun h => by rw [SO.out.1 h] at hpw; cases hpw
                omega
              clear hpw hxz
              go_wp2
              go_ret
              exact ⟨ret_bool HF.out, rfl⟩
            · have hx : ¬ (1 : Int) < (x : Int) := by
                have := SO.out.2 hpw
                omega
              by_cases hsz : y ≤ 16
              · have HG := Lib.hid ((vgo_go hpw (by omega) (by rw [HY.out]; exact hsz)).symm.trans HV.out)
                rw [HY.out] at HG
                have hy16 : ¬ (16 : Int) < (y : Int) := by omega
                clear hpw hxz
                go_wp2
                go_round
                case rel => exact ⟨y, n, k + 1, by omega, rfl, by go_num, hsz, hn16, Lib.hid fun h => absurd h (by omega), Lib.hid fun _ => HQ.out, HG⟩
                case measure => simp [intOf]; omega
              · have HF := Lib.hid ((vgo_sz (by rw [hcast]; omega)).symm.trans HV.out)
                have hy16 : (16 : Int) < (y : Int) := by omega
                clear hpw hxz
                go_wp2
                go_ret
                exact ⟨ret_bool HF.out, rfl⟩
      · obtain ⟨j, rfl⟩ : ∃ j, k = j + 1 := ⟨k - 1, by omega⟩
        obtain ⟨b2, off2, e2, _, hc2⟩ := HL.out.at_ (k := j) (by omega)
        cases e2
        have hpl := hlp.out hk0
        rw [show j + 1 - 1 = j by omega] at hpl
        rw [hpl] at hc2
        have tk0 : (0 : Int) < (j : Int) + 1 := by omega
        have tk1 : (0 : Int) < ((j + 1 : Nat) : Int) := by omega
        have tk4 : IntKind.i64.wrap ((j : Int) + 1 - 1) = (j : Int) := by rw [IntWalk.i64_in _ (by omega)]; omega
        have tk5 : IntKind.i64.wrap (((j + 1 : Nat) : Int) - 1) = (j : Int) := by rw [IntWalk.i64_in _ (by omega)]; omega
        clear hl1 hlp hpl hk0
        by_cases hll : l ≤ n
        rotate_left
        · have HF := Lib.hid ((vgo_or (by omega)).symm.trans HV.out)
          have hor : (n : Int) < (l : Int) := by omega
          go_wp2_with (go_at_call 45; refine (l1In_any _ _ _ _).mono ?_; rintro e1 w1 ⟨rfl, rfl⟩; rw [hi.out])
          go_ret
          exact ⟨ret_bool HF.out, rfl⟩
        have hor : ¬ (n : Int) < (l : Int) := by omega
        go_wp2_with (first
          | (go_at_call 45; refine (l1In_any _ _ _ _).mono ?_; rintro e1 w1 ⟨rfl, rfl⟩; rw [hi.out])
          | (go_at_call 97; refine PR.out.mono ?_; rintro e2 w2 ⟨rfl, rfl⟩))
        go_loop [5] (fun vq => ∃ x f : Nat, vq = .int .i64 x ∧ 1 ≤ x ∧ x ≤ 16 ∧ Hid (x < 2 ^ f) ∧ Hid (stN p f x = z)) (fun vq => (intOf vq).toNat)
        case atStart => exact ⟨n, 5, rfl, by omega, hn16, Lib.hid (by omega), HZ2⟩
        case round =>
          obtain ⟨x, f, rfl, hx1, hx16, hxf, hst⟩ := hrel
          have n3 : ¬ p = 0 := by omega
          have e2 : (x : Int) % p = ((x % p : Nat) : Int) := by simp
          by_cases hm : x % p = 0
          · obtain ⟨f', rfl, h1, h2, h3⟩ := st_lt hp2 hx1 hxf.out hm
            have HS := Lib.hid ((st_go hm).symm.trans hst.out)
            have te : (((x : Int) % p) == 0) = true := by rw [beq_iff_eq, e2, hm]; rfl
            have e3 : (x : Int) / p = ((x / p : Nat) : Int) := by simp
            obtain ⟨y2, hy2⟩ : ∃ y2, x / p = y2 := ⟨_, rfl⟩
            rw [hy2] at h1 h2 h3 HS e3
            have h2' := Lib.hid h2
            have h16' : y2 ≤ 16 := by omega
            have hw0 : IntKind.i64.wrap ((x : Int) / p) = (y2 : Int) := by rw [e3]; exact IntWalk.i64_in _ (by constructor <;> omega)
            have hw1 : wrap64 ((x : Int) / p) = (y2 : Int) := by rw [e3]; exact IntWalk.wrap64_in _ (by constructor <;> omega)
            clear e2 hm h2 hy2 e3
            go_wp2
            go_round
            case rel => exact ⟨y2, f', rfl, h1, h16', h2', HS⟩
            case measure => simpa [intOf] using h3
          · have hxz : x = z := (st_stop hm).symm.trans hst.out
            have te : (((x : Int) % p) == 0) = false := by rw [beq_eq_false_iff_ne, e2]; omega
            clear e2 hm
            cases hpw : pwOk (n : Int)
            · have HF := Lib.hid ((vgo_pw hpw).symm.trans HV.out)
              have hx : (1 : Int) < (x : Int) := by
                have : ¬ z ≤ 1 := fun h => by rw [SO.out.1 h] at hpw; cases hpw
                omega
              clear hpw hxz
              go_wp2
              go_ret
              exact ⟨ret_bool HF.out, rfl⟩
            · have hx : ¬ (1 : Int) < (x : Int) := by
                have := SO.out.2 hpw
                omega
              by_cases hsz : y ≤ 16
              · have HG := Lib.hid ((vgo_go hpw (by omega) (by rw [HY.out]; exact hsz)).symm.trans HV.out)
                rw [HY.out] at HG
                have hy16 : ¬ (16 : Int) < (y : Int) := by omega
                clear hpw hxz
                go_wp2
                go_round
                case rel => exact ⟨y, n, j + 1 + 1, by omega, rfl, by go_num, hsz, hn16, Lib.hid fun h => absurd h (by omega), Lib.hid fun _ => HQ.out, HG⟩
                case measure => simp [intOf]; omega
              · have HF := Lib.hid ((vgo_sz (by rw [hcast]; omega)).symm.trans HV.out)
                have hy16 : (16 : Int) < (y : Int) := by omega
                clear hpw hxz
                go_wp2
                go_ret
                exact ⟨ret_bool HF.out, rfl⟩
    · have hkm : k = len := by omega
      subst hkm
      have HF := Lib.hid (show true = Z by rw [← hv.out, List.drop_eq_nil_of_le (by rw [HN.out]; exact Nat.le_refl _)]; rfl)
      go_wp2
      go_ret
      exact ⟨ret_bool HF.out, rfl⟩

set_option maxHeartbeats 4000000 in
theorem scyc_any (C : Option Addr) (len cap : Nat) (L : List Int) (w : World) (hL : Ints w w.heap.size C len L) (hl : len ≤ 9223372036854775807) (hcap : len ≤ cap) :
    Calls Try.prog 34 #[.slice C len cap] w fun e w' => e = .returned (.bool (cycV L)) ∧ w = w' := by
  have HL := Lib.hid hL
  have HN := Lib.hid hL.1
  have HP := Lib.hid (svalid11_any C len cap L w w.heap.size hL hl)
  cases hv : pwV L
  · have hz := Lib.hid (cyc_no hv)
    have HV := Lib.hid hv
    clear hL hv
    go_enter Try.func34, Try.ntmps34
    go_wp2_with (go_at_call 82; refine HP.out.mono ?_; rintro e1 w1 ⟨rfl, rfl⟩; rw [HV.out])
    go_ret
    exact ⟨ret_bool hz.out.symm, rfl⟩
  · have hz := Lib.hid (cyc_yes hv)
    have HV := Lib.hid hv
    obtain ⟨Z, hZ⟩ : ∃ Z, cycG 1 L = Z := ⟨_, rfl⟩
    have HZ := Lib.hid hZ
    have V0 := Lib.hid (show vgo 1 1 L = true from hv)
    clear hL hv hZ
    go_enter Try.func34, Try.ntmps34
    go_wp2_with (go_at_call 82; refine HP.out.mono ?_; rintro e1 w1 ⟨rfl, rfl⟩; rw [HV.out])
    go_loop [12] (fun vi => ∃ s l k : Nat, k ≤ len ∧ vi = .int .i64 k ∧ Hid (pdN L k = s) ∧ Hid (∀ j, j < k → ∃ u : Nat, L[j]?.getD 0 = (u : Int) ∧ u ≤ 16) ∧ Hid (vgo s l (L.drop k) = true) ∧ Hid (cycG s (L.drop k) = Z)) (fun vi => len - (intOf vi).toNat)
    case atStart => exact ⟨1, 1, 0, Nat.zero_le _, rfl, Lib.hid rfl, Lib.hid fun j hj => absurd hj (by omega), V0, HZ⟩
    case round =>
      obtain ⟨s, l, k, hk, rfl, hpd, hsm, hv, hc⟩ := hrel
      by_cases hlt : k < len
      · obtain ⟨b, off, rfl, _, hcc⟩ := HL.out.at_ hlt
        obtain ⟨q, hq⟩ : ∃ q, L[k]?.getD 0 = q := ⟨_, rfl⟩
        have hd := drop_at (L := L) (k := k) (by rw [HN.out]; exact hlt)
        have HQ := Lib.hid hq
        rw [hq] at hd hcc
        have hv2 := hv.out
        have hc2 := hc.out
        rw [hd] at hv2 hc2
        obtain ⟨n, rfl, hn2, hn16, hsn, hv3⟩ := vgo_data hv2
        have HV3 := Lib.hid hv3
        have HC2 := Lib.hid hc2
        have CA := Lib.hid (cop_all (L := L) (q := n) (by omega) k)
        have hk1 : (k : Int) ≤ (cap : Int) := by omega
        have HH := HL.out
        clear hv2 hc2 hd hq hv3
        go_wp2
        go_loop [21] (fun vj => ∃ j : Nat, j ≤ k ∧ vj = .int .i64 j ∧ Hid (∀ i, i < j → Nat.gcd n (L[i]?.getD 0).toNat ≤ 1)) (fun vj => k - (intOf vj).toNat)
        case atStart => exact ⟨0, Nat.zero_le _, rfl, Lib.hid fun i hi => absurd hi (by omega)⟩
        case round =>
          obtain ⟨j, hj, rfl, hco⟩ := hrel
          by_cases hjk : j < k
          · obtain ⟨b2, off2, e2, _, hc2⟩ := HL.out.at_ (k := j) (by omega)
            cases e2
            obtain ⟨u, hu, hu16⟩ := hsm.out j hjk
            rw [hu] at hc2
            have GC := Lib.hid (sgcd_any n u w (by omega) (by omega))
            by_cases hg1 : Nat.gcd n u ≤ 1
            · have HC := Lib.hid (show ∀ i, i < j + 1 → Nat.gcd n (L[i]?.getD 0).toNat ≤ 1 from forall_succ hco.out (by rw [hu]; exact hg1))
              obtain ⟨d, hd⟩ : ∃ d, Nat.gcd n u = d := ⟨_, rfl⟩
              rw [hd] at GC hg1
              have hg1i : ¬ (1 : Int) < (d : Int) := by omega
              clear hd hu
              go_wp2_with (go_at_call 83; refine GC.out.mono ?_; rintro e1 w1 ⟨rfl, rfl⟩)
              go_round
              case rel => exact ⟨j + 1, by omega, by go_num, HC⟩
              case measure => simp [intOf]; omega
            · have HC := Lib.hid (show ¬ Nat.gcd s n ≤ 1 from fun h => hg1 (by
                have := (CA.out.1 (by rw [hpd.out]; exact h)) j hjk
                rw [hu] at this
                exact this))
              have HF := Lib.hid ((cycG_no HC.out).symm.trans HC2.out)
              obtain ⟨d, hd⟩ : ∃ d, Nat.gcd n u = d := ⟨_, rfl⟩
              rw [hd] at GC hg1
              have hg1i : (1 : Int) < (d : Int) := by omega
              clear hd hu
              go_wp2_with (go_at_call 83; refine GC.out.mono ?_; rintro e1 w1 ⟨rfl, rfl⟩)
              go_ret
              exact ⟨ret_bool (by rw [hz.out, HZ.out]; exact HF.out), rfl⟩
          · have hjk' : j = k := by omega
            subst hjk'
            have HG := Lib.hid (show Nat.gcd s n ≤ 1 by rw [← hpd.out]; exact CA.out.2 hco.out)
            have HC3 := Lib.hid ((cycG_go HG.out).symm.trans HC2.out)
            have HPD := Lib.hid (show pdN L (j + 1) = s * n by rw [pdN, hpd.out, HQ.out]; rfl)
            have HSM := Lib.hid (show ∀ i, i < j + 1 → ∃ u : Nat, L[i]?.getD 0 = (u : Int) ∧ u ≤ 16 from forall_succ hsm.out ⟨n, HQ.out, hn16⟩)
            go_wp2
            go_round
            case rel => exact ⟨s * n, n, j + 1, by omega, by go_num, HPD, HSM, HV3, HC3⟩
            case measure => simp [intOf]; omega
      · have hkm : k = len := by omega
        subst hkm
        have HF := Lib.hid (show true = Z by rw [← hc.out, List.drop_eq_nil_of_le (by rw [HN.out]; exact Nat.le_refl _)]; rfl)
        go_wp2
        go_ret
        exact ⟨ret_bool (by rw [hz.out, HZ.out]; exact HF.out), rfl⟩

set_option maxHeartbeats 2000000 in
theorem sexp_any (C : Option Addr) (len cap : Nat) (L : List Int) (w : World) (hL : Ints w w.heap.size C len L) (hl : len ≤ 9223372036854775807) :
    Calls Try.prog 35 #[.slice C len cap] w fun e w' => e = .returned (.int .i64 (expV L)) ∧ w = w' := by
  have HL := Lib.hid hL
  have HN := Lib.hid hL.1
  have HP := Lib.hid (svalid11_any C len cap L w w.heap.size hL hl)
  cases hv : pwV L
  · have hz := Lib.hid (exp_no hv)
    have HV := Lib.hid hv
    clear hL hv
    go_enter Try.func35, Try.ntmps35
    go_wp2_with (go_at_call 82; refine HP.out.mono ?_; rintro e1 w1 ⟨rfl, rfl⟩; rw [HV.out])
    go_ret
    exact ⟨ret_int hz.out.symm, rfl⟩
  · have hz := Lib.hid (exp_yes hv)
    have HV := Lib.hid hv
    obtain ⟨Z, hZ⟩ : ∃ Z, expG 1 L = Z := ⟨_, rfl⟩
    have HZ := Lib.hid hZ
    have V0 := Lib.hid (show vgo 1 1 L = true from hv)
    clear hL hv hZ
    go_enter Try.func35, Try.ntmps35
    go_wp2_with (go_at_call 82; refine HP.out.mono ?_; rintro e1 w1 ⟨rfl, rfl⟩; rw [HV.out])
    go_loop [3, 11] (fun vs vi => ∃ x s l k : Nat, k ≤ len ∧ vs = .int .i64 x ∧ vi = .int .i64 k ∧ 1 ≤ x ∧ x ≤ s ∧ s ≤ 16 ∧ Hid (vgo s l (L.drop k) = true) ∧ Hid (expG x (L.drop k) = Z)) (fun _ vi => len - (intOf vi).toNat)
    case atStart => exact ⟨1, 1, 1, 0, Nat.zero_le _, rfl, rfl, by omega, by omega, by omega, V0, HZ⟩
    case round =>
      obtain ⟨x, s, l, k, hk, rfl, rfl, hx1, hxs, hs, hv, hc⟩ := hrel
      by_cases hlt : k < len
      · obtain ⟨b, off, rfl, _, hcc⟩ := HL.out.at_ hlt
        obtain ⟨q, hq⟩ : ∃ q, L[k]?.getD 0 = q := ⟨_, rfl⟩
        have hd := drop_at (L := L) (k := k) (by rw [HN.out]; exact hlt)
        rw [hq] at hd hcc
        have hv2 := hv.out
        have hc2 := hc.out
        rw [hd] at hv2 hc2
        obtain ⟨n, rfl, hn2, hn16, hsn, hv3⟩ := vgo_data hv2
        have HV3 := Lib.hid hv3
        have HC3 := Lib.hid (show expG (x * n / Nat.gcd x n) (L.drop (k + 1)) = Z by rw [← lcm_two]; exact hc2)
        have LC := Lib.hid (sgcd_any x n w (by omega) (by omega))
        have h1 := lcm_pos hx1 (show 1 ≤ n by omega)
        have h2 : x / Nat.gcd x n * n ≤ s * n := Nat.le_trans lcm_le (Nat.mul_le_mul_right _ hxs)
        have hxn : x * n ≤ 16 * 16 := Nat.mul_le_mul (by omega) hn16
        rw [lcm_two] at h1 h2
        have hg0 : 0 < Nat.gcd x n := Nat.gcd_pos_of_pos_left _ hx1
        have hcast : (x : Int) * (n : Int) = ((x * n : Nat) : Int) := by simp
        obtain ⟨t, ht⟩ : ∃ t, x * n = t := ⟨_, rfl⟩
        obtain ⟨d, hdd⟩ : ∃ d, Nat.gcd x n = d := ⟨_, rfl⟩
        rw [ht] at h1 h2 HC3 hxn hcast
        rw [hdd] at h1 h2 HC3 LC hg0
        have e3 : (t : Int) / d = ((t / d : Nat) : Int) := by simp
        have n3 : ¬ d = 0 := by omega
        obtain ⟨y, hy⟩ : ∃ y, t / d = y := ⟨_, rfl⟩
        rw [hy] at HC3 h1 h2 e3
        have hw2 : IntKind.i64.wrap ((x : Int) * (n : Int)) = (t : Int) := by rw [hcast]; exact IntWalk.i64_in _ (by constructor <;> omega)
        have hw0 : IntKind.i64.wrap ((t : Int) / d) = (y : Int) := by rw [e3]; exact IntWalk.i64_in _ (by constructor <;> omega)
        have hw1 : wrap64 ((t : Int) / d) = (y : Int) := by rw [e3]; exact IntWalk.wrap64_in _ (by constructor <;> omega)
        clear hv2 hc2 hd hq hv3 hy ht hdd hcast e3
        go_wp2_with (go_at_call 83; refine LC.out.mono ?_; rintro e1 w1 ⟨rfl, rfl⟩)
        go_round
        case rel => exact ⟨y, s * n, n, k + 1, by omega, rfl, by go_num, h1, h2, hsn, HV3, HC3⟩
        case measure => simp [intOf]; omega
      · have hkm : k = len := by omega
        subst hkm
        have HF := Lib.hid (show x = Z by rw [← hc.out, List.drop_eq_nil_of_le (by rw [HN.out]; exact Nat.le_refl _)]; rfl)
        go_wp2
        go_ret
        exact ⟨ret_int (by rw [hz.out, HZ.out, HF.out]), rfl⟩

theorem scycB_any (C : Option Addr) (len cap : Nat) (L : List Int) (w : World) (hL : Ints w w.heap.size C len L) (hl : len ≤ 9223372036854775807) (hcap : len ≤ cap) :
    Calls Try.prog 34 #[.slice C len cap] w fun e w' => e = .returned (.bool (cycV L)) ∧ Below w.heap.size w w' := (scyc_any C len cap L w hL hl hcap).mono fun _ _ h => ⟨h.1, h.2 ▸ Below.refl _ _⟩
theorem sexpB_any (C : Option Addr) (len cap : Nat) (L : List Int) (w : World) (hL : Ints w w.heap.size C len L) (hl : len ≤ 9223372036854775807) :
    Calls Try.prog 35 #[.slice C len cap] w fun e w' => e = .returned (.int .i64 (expV L)) ∧ Below w.heap.size w w' := (sexp_any C len cap L w hL hl).mono fun _ _ h => ⟨h.1, h.2 ▸ Below.refl _ _⟩

end Go.Proofs.Ytlcpbdbdiahmjaa

