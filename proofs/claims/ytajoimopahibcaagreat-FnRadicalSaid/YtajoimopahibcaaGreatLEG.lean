
import Derived.Test.YtajoimopahibcaaGreatLEF
import Derived.Test.YtajoimopahibcaaGreatNA
/- Plain facts: prime and maximal ideals, ideals above one, radicals. No program in sight. -/
namespace Go.Proofs.YtajoimopahibcaaGreat
open Go.RowKit

section
variable {m e : Nat} {S P : Nat → Nat} {p q : Nat → Bool}
theorem prime_iff : primeB m P p = true ↔ wholeB m p = false ∧ ∀ x y, x < m → y < m → p x = false → p y = false → p (P (x * m + y)) = false := by
  unfold primeB
  rw [Bool.and_eq_true, propB_iff, Bool.not_eq_true']
theorem max_iff : maxB m S P p = true ↔ wholeB m p = false ∧ ∀ x, x < m → p x = false → wholeB m (opsB m S p (mulB m P x)) = true := by
  unfold maxB
  rw [Bool.and_eq_true, propB_iff, Bool.not_eq_true']
/-- An ideal with One is the whole ring. -/
theorem RTab.whole_one (R : RTab m S P e) (hp : Idl m S P p) (h : p e = true) : wholeB m p = true := whole_iff.2 fun x hx => by
  have := hp.t e x h hx
  rwa [R.Mcs R.he hx, R.M11 hx] at this
theorem RTab.max_prime (R : RTab m S P e) (hp : Idl m S P p) (h : maxB m S P p = true) : primeB m P p = true := by
  obtain ⟨h1, h2⟩ := max_iff.1 h
  refine prime_iff.2 ⟨h1, fun x y hx hy px py => ?_⟩
  cases hxy : p (P (x * m + y)) with
  | false => rfl
  | true =>
    exfalso
    obtain ⟨a, b, ha, hb, hab⟩ := opsB_iff.1 (whole_iff.1 (h2 x hx px) e R.he)
    obtain ⟨z, hz, rfl⟩ := mulB_iff.1 hb
    have am := hp.lt a ha
    have e1 : P (y * m + e) = S (P (y * m + a) * m + P (y * m + P (x * m + z))) := by rw [← hab]; exact R.Md hy am (R.pc hx hz)
    rw [R.M11 hy] at e1
    have e2 : p (P (y * m + a)) = true := by rw [R.Mcs hy am]; exact hp.t a y ha hy
    have e3 : p (P (y * m + P (x * m + z))) = true := by
      rw [← R.Mas hy hx hz, R.Mcs hy hx]
      exact hp.t _ z hxy hz
    have := hp.s _ _ e2 e3
    rw [← e1, py] at this
    cases this
/-- No power of an element outside of a prime ideal lies in it. -/
theorem RTab.prime_pw (R : RTab m S P e) (hp : Idl m S P p) (h : primeB m P p = true) {x : Nat} (hx : x < m) (px : p x = false) : ∀ k, p (seqZ m P e x k) = false
  | 0 => by
    cases he : p e with
    | false => exact he
    | true => have h1 := (prime_iff.1 h).1; rw [R.whole_one hp he] at h1; cases h1
  | k + 1 => (prime_iff.1 h).2 _ x (R.pw_lt hx k) hx (R.prime_pw hp h hx px k) px
theorem RTab.prime_max (R : RTab m S P e) (hp : Idl m S P p) (h : primeB m P p = true) : maxB m S P p = true := by
  refine max_iff.2 ⟨(prime_iff.1 h).1, fun x hx px => ?_⟩
  obtain ⟨i, j, hij, hj, q⟩ := pigeon m (seqZ m P e x) (fun i _ => R.pw_lt hx i)
  obtain ⟨d, rfl⟩ : ∃ d, j = i + (d + 1) := ⟨j - i - 1, by omega⟩
  rw [R.pw_add hx] at q
  obtain ⟨u, hu⟩ : ∃ u, seqZ m P e x i = u := ⟨_, rfl⟩
  obtain ⟨v, hv⟩ : ∃ v, seqZ m P e x (d + 1) = v := ⟨_, rfl⟩
  rw [hu, hv] at q
  have um : u < m := by rw [← hu]; exact R.pw_lt hx i
  have vm : v < m := by rw [← hv]; exact R.pw_lt hx _
  have pu : p u = false := by rw [← hu]; exact R.prime_pw hp h hx px i
  obtain ⟨n, nm, _, hn⟩ := R.negEx vm
  have wm := R.sc R.he nm
  have e1 : P (u * m + S (e * m + n)) = 0 := by
    rw [R.Md um R.he nm, R.M11 um]
    have := R.mul_neg um vm nm hn
    rw [← q] at this
    exact this
  have pw : p (S (e * m + n)) = true := by
    cases hw : p (S (e * m + n)) with
    | true => rfl
    | false =>
      have := (prime_iff.1 h).2 u _ um wm pu hw
      rw [e1, hp.z] at this
      cases this
  have hvx : mulB m P x v = true := mulB_iff.2 ⟨seqZ m P e x d, R.pw_lt hx d, by rw [R.Mcs hx (R.pw_lt hx d), ← hv]; rfl⟩
  have he : opsB m S p (mulB m P x) e = true := opsB_iff.2 ⟨_, v, pw, hvx, by rw [R.Aas R.he nm vm, R.Acs nm vm, hn, R.A00 R.he]⟩
  exact R.whole_one (R.sum_idl hp (R.mul_idl hx)) he
theorem RTab.prime_is_max (R : RTab m S P e) (hp : Idl m S P p) : primeB m P p = maxB m S P p := by
  rw [Bool.eq_iff_iff]
  exact ⟨R.prime_max hp, R.max_prime hp⟩
/-- The whole ring as a set. -/
def allM (m : Nat) (i : Nat) : Bool := decide (i < m)
theorem allM_idl (R : RTab m S P e) : Idl m S P (allM m) where
  lt := fun _ h => of_decide_eq_true h
  z := decide_eq_true R.hm
  s := fun _ _ hi hj => decide_eq_true (R.sc (of_decide_eq_true hi) (of_decide_eq_true hj))
  t := fun _ _ hi hj => decide_eq_true (R.pc (of_decide_eq_true hi) hj)
theorem whole_allM (hp : ∀ i, p i = true → i < m) (h : wholeB m p = true) : p = allM m := bool_ext fun i => ⟨fun hi => decide_eq_true (hp i hi), fun hi => whole_iff.1 h i (of_decide_eq_true hi)⟩
theorem not_whole_iff : wholeB m p = false ↔ ∃ x, x < m ∧ p x = false := by
  rw [← Bool.not_eq_true, whole_iff]
  constructor
  · intro h
    refine Classical.byContradiction fun hc => h fun x hx => ?_
    cases hpx : p x with
    | true => rfl
    | false => exact absurd ⟨x, hx, hpx⟩ hc
  · rintro ⟨x, hx, hpx⟩ h
    rw [h x hx] at hpx
    cases hpx

/-- The ideals above an ideal, of a list of all: two exactly if it is maximal. -/
theorem RTab.above_two (R : RTab m S P e) (hp : Idl m S P p) {F : List (List Int)} (hn : F.Nodup) (hF : ∀ l, l ∈ F ↔ ∃ q, Idl m S P q ∧ l = lstP m q ∧ ∀ i, p i = true → q i = true) : F.length = 2 ↔ maxB m S P p = true := by
  have hW : lstP m (allM m) ∈ F := (hF _).2 ⟨_, allM_idl R, rfl, fun i hi => decide_eq_true (hp.lt i hi)⟩
  have hP : lstP m p ∈ F := (hF _).2 ⟨p, hp, rfl, fun _ h => h⟩
  constructor
  · intro h2
    cases hw : wholeB m p with
    | true =>
      exfalso
      have e1 := whole_allM hp.lt hw
      have : F.length ≤ [lstP m p].length := hn.length_le_of_subset fun l hl => by
        obtain ⟨q, hq, rfl, hpq⟩ := (hF l).1 hl
        have e2 : q = allM m := whole_allM hq.lt (whole_iff.2 fun x hx => hpq x (whole_iff.1 hw x hx))
        rw [e2, e1]
        exact List.mem_singleton.2 rfl
      simp at this
      omega
    | false =>
      refine max_iff.2 ⟨hw, fun x hx px => ?_⟩
      cases hq : wholeB m (opsB m S p (mulB m P x)) with
      | true => rfl
      | false =>
        exfalso
        have hqi := R.sum_idl hp (R.mul_idl hx)
        have hQ : lstP m (opsB m S p (mulB m P x)) ∈ F := (hF _).2 ⟨_, hqi, rfl, fun i hi => R.sum_left hp (R.mul_idl hx) hi⟩
        have n1 : lstP m p ≠ lstP m (opsB m S p (mulB m P x)) := fun h => by
          have e1 := lst_uniq hp.lt hqi.lt h
          have e2 : opsB m S p (mulB m P x) x = true := R.sum_right hp (R.mul_idl hx) (R.mul_self hx)
          rw [← e1, px] at e2
          cases e2
        have n2 : lstP m p ≠ lstP m (allM m) := fun h => by
          have e1 := lst_uniq hp.lt (allM_idl R).lt h
          have e2 : allM m x = true := decide_eq_true hx
          rw [← e1, px] at e2
          cases e2
        have n3 : lstP m (opsB m S p (mulB m P x)) ≠ lstP m (allM m) := fun h => by
          have e1 := lst_uniq hqi.lt (allM_idl R).lt h
          obtain ⟨y, hy, hy2⟩ := not_whole_iff.1 hq
          have e2 : allM m y = true := decide_eq_true hy
          rw [← e1, hy2] at e2
          cases e2
        have : [lstP m p, lstP m (opsB m S p (mulB m P x)), lstP m (allM m)].length ≤ F.length := by
          refine List.Nodup.length_le_of_subset ?_ ?_
          · simp [n1, n2, n3]
          · intro l hl
            simp only [List.mem_cons, List.not_mem_nil, or_false] at hl
            rcases hl with rfl | rfl | rfl
            · exact hP
            · exact hQ
            · exact hW
        simp at this
        omega
  · intro hmx
    obtain ⟨h1, h2⟩ := max_iff.1 hmx
    have n2 : lstP m p ≠ lstP m (allM m) := fun h => by
      have e1 := lst_uniq hp.lt (allM_idl R).lt h
      obtain ⟨y, hy, hy2⟩ := not_whole_iff.1 h1
      have e2 : allM m y = true := decide_eq_true hy
      rw [← e1, hy2] at e2
      cases e2
    have u1 : [lstP m p, lstP m (allM m)].length ≤ F.length := by
      refine List.Nodup.length_le_of_subset (by simp [n2]) ?_
      intro l hl
      simp only [List.mem_cons, List.not_mem_nil, or_false] at hl
      rcases hl with rfl | rfl
      · exact hP
      · exact hW
    have u2 : F.length ≤ [lstP m p, lstP m (allM m)].length := hn.length_le_of_subset fun l hl => by
      obtain ⟨q, hq, rfl, hpq⟩ := (hF l).1 hl
      simp only [List.mem_cons, List.not_mem_nil, or_false]
      by_cases hx : ∃ x, q x = true ∧ p x = false
      · obtain ⟨x, qx, px⟩ := hx
        have hxm := hq.lt x qx
        refine .inr ?_
        rw [whole_allM hq.lt (whole_iff.2 fun y hy => sum_le hq hpq (fun i hi => mul_le hq qx hi) (whole_iff.1 (h2 x hxm px) y hy))]
      · refine .inl ?_
        congr 1
        refine bool_ext fun i => ⟨fun hi => ?_, hpq i⟩
        cases hpi : p i with
        | true => rfl
        | false => exact absurd ⟨i, hi, hpi⟩ hx
    simp at u1 u2
    omega

/-- An element lies in the radical exactly if some power of it lies in the ideal. -/
theorem RTab.rad_iff (R : RTab m S P e) (hm' : m ≤ 16) (hp : Idl m S P p) {x : Nat} (hx : x < m) : radB m P e p x = true ↔ ∃ k, p (seqZ m P e x k) = true := by
  unfold radB
  rw [R.pow_eq hx (Nat.lt_of_le_of_lt hm' (by decide))]
  refine ⟨fun h => ⟨m, h⟩, ?_⟩
  rintro ⟨k, hk⟩
  have more : ∀ {k : Nat}, p (seqZ m P e x k) = true → ∀ j, p (seqZ m P e x (k + j)) = true := fun {k} hk j => by
    rw [R.pw_add hx]
    exact hp.t _ _ hk (R.pw_lt hx j)
  obtain ⟨i, j, hij, hj, q⟩ := pigeon m (seqZ m P e x) (fun i _ => R.pw_lt hx i)
  have hper : ∀ t, seqZ m P e x i = seqZ m P e x (i + (j - i) * t) := by
    intro t
    induction t with
    | zero => rfl
    | succ t ih =>
      rw [Nat.mul_succ, ← Nat.add_assoc, R.pw_add hx, ← ih, ← R.pw_add hx, show i + (j - i) = j by omega]
      exact q
  have h0 : p (seqZ m P e x i) = true := by
    rw [hper k]
    have : k ≤ i + (j - i) * k := by
      have := Nat.le_mul_of_pos_left k (show 0 < j - i by omega)
      omega
    have h2 := more hk (i + (j - i) * k - k)
    rwa [show k + (i + (j - i) * k - k) = i + (j - i) * k by omega] at h2
  have h3 := more h0 (m - i)
  rwa [show i + (m - i) = m by omega] at h3
/-- Outside of the radical: some prime ideal above has not the element. -/
theorem RTab.prime_out (R : RTab m S P e) {x : Nat} (hx : x < m) : ∀ (n : Nat) (q : Nat → Bool), Idl m S P q → (∀ i, p i = true → q i = true) → (∀ k, q (seqZ m P e x k) = false) → m - (lstP m q).length ≤ n → ∃ r, Idl m S P r ∧ (∀ i, p i = true → r i = true) ∧ primeB m P r = true ∧ r x = false := by
  intro n
  induction n with
  | zero =>
    intro q hq _ hk hn
    exfalso
    have h1 : (lstP m q).length = m := by have := lst_le (m := m) (p := q); omega
    have h2 := whole_iff.1 (lst_whole.1 h1) e R.he
    have h3 : q e = false := hk 0
    rw [h3] at h2
    cases h2
  | succ n ih =>
    intro q hq hpq hk hn
    cases hpr : primeB m P q with
    | true =>
      refine ⟨q, hq, hpq, hpr, ?_⟩
      have := hk 1
      rwa [R.pw_one hx] at this
    | false =>
      have hw : wholeB m q = false := by
        cases hw : wholeB m q with
        | false => rfl
        | true =>
          have h2 := whole_iff.1 hw e R.he
          have h3 : q e = false := hk 0
          rw [h3] at h2
          cases h2
      obtain ⟨y, z, hy, hz, qy, qz, qyz⟩ : ∃ y z, y < m ∧ z < m ∧ q y = false ∧ q z = false ∧ q (P (y * m + z)) = true := by
        refine Classical.byContradiction fun hc => ?_
        have : primeB m P q = true := prime_iff.2 ⟨hw, fun y z hy hz qy qz => by
          cases hyz : q (P (y * m + z)) with
          | false => rfl
          | true => exact absurd ⟨y, z, hy, hz, qy, qz, hyz⟩ hc⟩
        rw [hpr] at this
        cases this
      have step : ∀ {y : Nat}, y < m → q y = false → (∀ k, opsB m S q (mulB m P y) (seqZ m P e x k) = false) → ∃ r, Idl m S P r ∧ (∀ i, p i = true → r i = true) ∧ primeB m P r = true ∧ r x = false := fun {y} hy qy hno => by
        have hqi := R.sum_idl hq (R.mul_idl hy)
        have hle : ∀ i, q i = true → opsB m S q (mulB m P y) i = true := fun i hi => R.sum_left hq (R.mul_idl hy) hi
        refine ih _ hqi (fun i hi => hle i (hpq i hi)) hno ?_
        have h1 : (lstP m q).length ≤ (lstP m (opsB m S q (mulB m P y))).length := by
          rw [lst_len, lst_len]
          exact selTo_mono (fun a _ => hle a) m (Nat.le_refl _)
        have h2 : (lstP m q).length ≠ (lstP m (opsB m S q (mulB m P y))).length := fun h => by
          have e1 := lst_same hle hqi.lt h
          have e2 : opsB m S q (mulB m P y) y = true := R.sum_right hq (R.mul_idl hy) (R.mul_self hy)
          rw [← e1, qy] at e2
          cases e2
        have h3 := lst_le (m := m) (p := opsB m S q (mulB m P y))
        omega
      by_cases c1 : ∀ k, opsB m S q (mulB m P y) (seqZ m P e x k) = false
      · exact step hy qy c1
      · by_cases c2 : ∀ k, opsB m S q (mulB m P z) (seqZ m P e x k) = false
        · exact step hz qz c2
        · exfalso
          have some_ : ∀ {f : Nat → Bool}, (¬ ∀ k, f k = false) → ∃ k, f k = true := fun {f} h => by
            refine Classical.byContradiction fun hc => h fun k => ?_
            cases hf : f k with
            | false => rfl
            | true => exact absurd ⟨k, hf⟩ hc
          obtain ⟨i, hi⟩ := some_ c1
          obtain ⟨j, hj⟩ := some_ c2
          obtain ⟨a, b, ha, hb, hab⟩ := opsB_iff.1 hi
          obtain ⟨s, hs, rfl⟩ := mulB_iff.1 hb
          obtain ⟨c, d, hc, hd, hcd⟩ := opsB_iff.1 hj
          obtain ⟨t, ht, rfl⟩ := mulB_iff.1 hd
          have am := hq.lt a ha
          have cm := hq.lt c hc
          have ysm := R.pc hy hs
          have ztm := R.pc hz ht
          have h0 : q (seqZ m P e x (i + j)) = true := by
            rw [R.pw_add hx, ← hab, ← hcd, R.Md (R.sc am ysm) cm ztm]
            refine hq.s _ _ ?_ ?_
            · rw [R.Mcs (R.sc am ysm) cm]
              exact hq.t c _ hc (R.sc am ysm)
            · rw [R.Mcs (R.sc am ysm) ztm, R.Md ztm am ysm]
              refine hq.s _ _ ?_ ?_
              · rw [R.Mcs ztm am]
                exact hq.t a _ ha ztm
              · have e1 : P (P (z * m + t) * m + P (y * m + s)) = P (P (y * m + z) * m + P (t * m + s)) := by
                  rw [R.Mas hz ht ysm, ← R.Mas ht hy hs, R.Mcs ht hy, R.Mas hy ht hs, ← R.Mas hz hy (R.pc ht hs), R.Mcs hz hy]
                rw [e1]
                exact hq.t _ _ qyz (R.pc ht hs)
          rw [hk] at h0
          cases h0
/-- The radical is what all prime ideals above have in common. -/
theorem RTab.rad_primes (R : RTab m S P e) (hm' : m ≤ 16) (hp : Idl m S P p) {x : Nat} (hx : x < m) : radB m P e p x = true ↔ ∀ q, Idl m S P q → (∀ i, p i = true → q i = true) → primeB m P q = true → q x = true := by
  rw [R.rad_iff hm' hp hx]
  constructor
  · rintro ⟨k, hk⟩ q hq hpq hpr
    cases hqx : q x with
    | true => rfl
    | false =>
      have := R.prime_pw hq hpr hx hqx k
      rw [hpq _ hk] at this
      cases this
  · intro h
    refine Classical.byContradiction fun hc => ?_
    have hno : ∀ k, p (seqZ m P e x k) = false := fun k => by
      cases hk : p (seqZ m P e x k) with
      | false => rfl
      | true => exact absurd ⟨k, hk⟩ hc
    obtain ⟨r, h1, h2, h3, h4⟩ := R.prime_out (p := p) hx m p hp (fun _ h => h) hno (Nat.sub_le _ _)
    rw [h r h1 h2 h3] at h4
    cases h4
end
end Go.Proofs.YtajoimopahibcaaGreat

