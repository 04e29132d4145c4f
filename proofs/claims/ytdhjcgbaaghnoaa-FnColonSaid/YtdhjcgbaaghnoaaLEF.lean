
import Derived.Test.YtdhjcgbaaghnoaaLEE
/- Plain facts: sums, meets, products and quotients of two ideals. No program in sight. -/
namespace Go.Proofs.Ytdhjcgbaaghnoaa
open Go.RowKit

section
variable {m e : Nat} {S P : Nat → Nat} {p q r : Nat → Bool}
theorem RTab.sum_comm (R : RTab m S P e) (hp : ∀ i, p i = true → i < m) (hq : ∀ i, q i = true → i < m) : opsB m S p q = opsB m S q p := bool_ext fun i => by
  rw [opsB_iff, opsB_iff]
  constructor
  · rintro ⟨a, b, ha, hb, rfl⟩
    exact ⟨b, a, hb, ha, R.Acs (hq b hb) (hp a ha)⟩
  · rintro ⟨a, b, ha, hb, rfl⟩
    exact ⟨b, a, hb, ha, R.Acs (hp b hb) (hq a ha)⟩
theorem RTab.prd_comm (R : RTab m S P e) (hp : ∀ i, p i = true → i < m) (hq : ∀ i, q i = true → i < m) : opsB m P p q = opsB m P q p := bool_ext fun i => by
  rw [opsB_iff, opsB_iff]
  constructor
  · rintro ⟨a, b, ha, hb, rfl⟩
    exact ⟨b, a, hb, ha, R.Mcs (hq b hb) (hp a ha)⟩
  · rintro ⟨a, b, ha, hb, rfl⟩
    exact ⟨b, a, hb, ha, R.Mcs (hp b hb) (hq a ha)⟩
/-- A sum with a part of an ideal is the ideal. -/
theorem RTab.sum_in (R : RTab m S P e) (hp : Idl m S P p) (hq : Idl m S P q) (h : ∀ i, p i = true → q i = true) : opsB m S p q = q :=
  bool_ext fun _ => ⟨fun hi => sum_le hq h (fun _ h => h) hi, fun hi => R.sum_right hp hq hi⟩
theorem prd_ge (hp : Idl m S P p) (hq : Idl m S P q) (hpc : ∀ i j, i < m → j < m → P (i * m + j) < m) {a b : Nat} (ha : p a = true) (hb : q b = true) : genB m S P (opsB m P p q) (P (a * m + b)) = true :=
  gen_ge (fun i h => by obtain ⟨a, b, ha, hb, rfl⟩ := opsB_iff.1 h; exact hpc a b (hp.lt a ha) (hq.lt b hb)) (opsB_iff.2 ⟨a, b, ha, hb, rfl⟩)
/-- Products lie in meets. -/
theorem RTab.prd_met (R : RTab m S P e) (hp : Idl m S P p) (hq : Idl m S P q) {i : Nat} (hi : genB m S P (opsB m P p q) i = true) : (p i && q i) = true :=
  gen_le (meet_idl hp hq) (fun i h => by
    obtain ⟨a, b, ha, hb, rfl⟩ := opsB_iff.1 h
    rw [Bool.and_eq_true]
    exact ⟨hp.t a b ha (hq.lt b hb), by rw [R.Mcs (hp.lt a ha) (hq.lt b hb)]; exact hq.t b a hb (hp.lt a ha)⟩) hi
/-- An element of the meet times one of the sum lies in the product. -/
theorem RTab.sum_met_prd (R : RTab m S P e) (hp : Idl m S P p) (hq : Idl m S P q) {s x : Nat} (hs : opsB m S p q s = true) (hx : (p x && q x) = true) : genB m S P (opsB m P p q) (P (s * m + x)) = true := by
  obtain ⟨a, b, ha, hb, rfl⟩ := opsB_iff.1 hs
  rw [Bool.and_eq_true] at hx
  have am := hp.lt a ha
  have bm := hq.lt b hb
  have xm := hp.lt x hx.1
  rw [R.Mcs (R.sc am bm) xm, R.Md xm am bm, R.Mcs xm am]
  exact (R.gen_idl).s _ _ (prd_ge hp hq (fun _ _ h h' => R.pc h h') ha hx.2) (prd_ge hp hq (fun _ _ h h' => R.pc h h') hx.1 hb)
theorem RTab.sm_le (R : RTab m S P e) (hp : Idl m S P p) (hq : Idl m S P q) {i : Nat} (hi : genB m S P (opsB m P (opsB m S p q) (fun i => p i && q i)) i = true) : genB m S P (opsB m P p q) i = true :=
  gen_le R.gen_idl (fun i h => by
    obtain ⟨s, x, hs, hx, rfl⟩ := opsB_iff.1 h
    exact R.sum_met_prd hp hq hs hx) hi
/-- If the sum is the whole ring the product is the meet. -/
theorem RTab.prd_whole (R : RTab m S P e) (hp : Idl m S P p) (hq : Idl m S P q) (hw : wholeB m (opsB m S p q) = true) : genB m S P (opsB m P p q) = fun i => p i && q i :=
  bool_ext fun i => ⟨fun hi => R.prd_met hp hq hi, fun hi => by
    have him : i < m := hp.lt i (by have hi2 : (p i && q i) = true := hi; rw [Bool.and_eq_true] at hi2; exact hi2.1)
    have := R.sum_met_prd hp hq (whole_iff.1 hw e R.he) hi
    rw [R.Mcs R.he him, R.M11 him] at this
    exact this⟩
end

section
variable {m e : Nat} {X Y L K : List Int} {p q : Nat → Bool}
theorem sum_at (hv : validB m e X Y = true) (hp : Idl m (tabOf X) (tabOf Y) p) (hq : Idl m (tabOf X) (tabOf Y) q) : sumL m e X Y (lstP m p) (lstP m q) = lstP m (opsB m (tabOf X) p q) := by
  unfold sumL
  rw [fromL_yes (two_yes (isId_of hv hp) (isId_of hv hq)), setL_lst hp.lt, setL_lst hq.lt, Int.toNat_natCast]
theorem prd_at (hv : validB m e X Y = true) (hp : Idl m (tabOf X) (tabOf Y) p) (hq : Idl m (tabOf X) (tabOf Y) q) : prdL m e X Y (lstP m p) (lstP m q) = lstP m (genB m (tabOf X) (tabOf Y) (opsB m (tabOf Y) p q)) := by
  unfold prdL
  rw [fromL_yes (two_yes (isId_of hv hp) (isId_of hv hq)), setL_lst hp.lt, setL_lst hq.lt, Int.toNat_natCast]
theorem met_at (hv : validB m e X Y = true) (hp : Idl m (tabOf X) (tabOf Y) p) (hq : Idl m (tabOf X) (tabOf Y) q) : metL m e X Y (lstP m p) (lstP m q) = lstP m (fun i => p i && q i) := by
  unfold metL
  rw [fromL_yes (two_yes (isId_of hv hp) (isId_of hv hq)), setL_lst hp.lt, setL_lst hq.lt, Int.toNat_natCast]
/-- The quotient as a set of elements of the ring. -/
noncomputable def colM (m : Nat) (P : Nat → Nat) (p q : Nat → Bool) (i : Nat) : Bool := decide (i < m) && colB m P p q i
theorem col_at (hv : validB m e X Y = true) (hp : Idl m (tabOf X) (tabOf Y) p) (hq : Idl m (tabOf X) (tabOf Y) q) : colL m e X Y (lstP m p) (lstP m q) = lstP m (colM m (tabOf Y) p q) := by
  unfold colL
  rw [fromL_yes (two_yes (isId_of hv hp) (isId_of hv hq)), setL_lst hp.lt, setL_lst hq.lt, Int.toNat_natCast]
  exact lst_congr fun i hi => by unfold colM; rw [decide_eq_true hi, Bool.true_and]
theorem colM_iff {m i : Nat} {P : Nat → Nat} {p q : Nat → Bool} : colM m P p q i = true ↔ i < m ∧ ∀ y, q y = true → p (P (i * m + y)) = true := by
  unfold colM
  rw [Bool.and_eq_true, decide_eq_true_iff, colB_iff]
theorem RTab.colM_idl {S P : Nat → Nat} (R : RTab m S P e) (hp : Idl m S P p) (hq : ∀ i, q i = true → i < m) : Idl m S P (colM m P p q) where
  lt := fun i h => (colM_iff.1 h).1
  z := colM_iff.2 ⟨R.hm, fun y hy => by rw [R.Mcs R.hm (hq y hy), R.M00 (hq y hy)]; exact hp.z⟩
  s := fun i j hi hj => by
    obtain ⟨i1, i2⟩ := colM_iff.1 hi
    obtain ⟨j1, j2⟩ := colM_iff.1 hj
    refine colM_iff.2 ⟨R.sc i1 j1, fun y hy => ?_⟩
    have ym := hq y hy
    rw [R.Mcs (R.sc i1 j1) ym, R.Md ym i1 j1, R.Mcs ym i1, R.Mcs ym j1]
    exact hp.s _ _ (i2 y hy) (j2 y hy)
  t := fun i j hi hj => by
    obtain ⟨i1, i2⟩ := colM_iff.1 hi
    refine colM_iff.2 ⟨R.pc i1 hj, fun y hy => ?_⟩
    have ym := hq y hy
    rw [R.Mas i1 hj ym, R.Mcs hj ym, ← R.Mas i1 ym hj]
    exact hp.t _ j (i2 y hy) hj

/-- What FnSumMeet wants. -/
theorem sumMeet_law (h : twoI m e X Y L K = true) : sumL m e X Y K L = sumL m e X Y L K ∧ metL m e X Y K L = metL m e X Y L K ∧ isIdB m e X Y (sumL m e X Y L K) = true ∧ isIdB m e X Y (metL m e X Y L K) = true ∧ (sumL m e X Y L K).length * (metL m e X Y L K).length = L.length * K.length := by
  obtain ⟨h1, h2⟩ := two_data h
  obtain ⟨hv, hp, eL⟩ := isId_data h1
  obtain ⟨_, hq, eK⟩ := isId_data h2
  have R := rtab_of_valid hv
  obtain ⟨p, ep⟩ : ∃ p, setL L = p := ⟨_, rfl⟩
  obtain ⟨q, eq⟩ : ∃ p, setL K = p := ⟨_, rfl⟩
  rw [ep] at hp eL
  rw [eq] at hq eK
  subst eL
  subst eK
  rw [sum_at hv hq hp, sum_at hv hp hq, met_at hv hq hp, met_at hv hp hq]
  exact ⟨by rw [R.sum_comm hq.lt hp.lt], congrArg _ (funext fun i => Bool.and_comm _ _), isId_of hv (R.sum_idl hp hq), isId_of hv (meet_idl hp hq), R.sum_meet hp hq⟩
/-- What FnProductIdeal wants. -/
theorem productIdeal_law (h : twoI m e X Y L K = true) : sumL m e X Y (prdL m e X Y L K) (metL m e X Y L K) = metL m e X Y L K ∧ sumL m e X Y (prdL m e X Y (sumL m e X Y L K) (metL m e X Y L K)) (prdL m e X Y L K) = prdL m e X Y L K ∧ prdL m e X Y K L = prdL m e X Y L K ∧ isIdB m e X Y (prdL m e X Y L K) = true ∧
    ((sumL m e X Y L K).length ≥ m → metL m e X Y L K = prdL m e X Y L K) := by
  obtain ⟨h1, h2⟩ := two_data h
  obtain ⟨hv, hp, eL⟩ := isId_data h1
  obtain ⟨_, hq, eK⟩ := isId_data h2
  have R := rtab_of_valid hv
  obtain ⟨p, ep⟩ : ∃ p, setL L = p := ⟨_, rfl⟩
  obtain ⟨q, eq⟩ : ∃ p, setL K = p := ⟨_, rfl⟩
  rw [ep] at hp eL
  rw [eq] at hq eK
  subst eL
  subst eK
  have hpr : Idl m (tabOf X) (tabOf Y) (genB m (tabOf X) (tabOf Y) (opsB m (tabOf Y) p q)) := R.gen_idl
  have hmt := meet_idl hp hq
  have hsg := R.sum_idl hp hq
  rw [sum_at hv hp hq, prd_at hv hp hq, prd_at hv hq hp, met_at hv hp hq, sum_at hv hpr hmt, prd_at hv hsg hmt, sum_at hv R.gen_idl hpr]
  refine ⟨by rw [R.sum_in hpr hmt fun i hi => R.prd_met hp hq hi], by rw [R.sum_in R.gen_idl hpr fun i hi => R.sm_le hp hq hi], by rw [R.prd_comm hq.lt hp.lt], isId_of hv hpr, fun hl => ?_⟩
  have hw : wholeB m (opsB m (tabOf X) p q) = true := lst_whole.1 (Nat.le_antisymm lst_le hl)
  rw [R.prd_whole hp hq hw]
/-- What FnColon wants. -/
theorem colon_law (h : twoI m e X Y L K = true) : sumL m e X Y (prdL m e X Y (colL m e X Y L K) K) L = L ∧ sumL m e X Y (colL m e X Y L K) L = colL m e X Y L K ∧ sumL m e X Y (colL m e X Y (prdL m e X Y L K) K) L = colL m e X Y (prdL m e X Y L K) K ∧ isIdB m e X Y (colL m e X Y L K) = true := by
  obtain ⟨h1, h2⟩ := two_data h
  obtain ⟨hv, hp, eL⟩ := isId_data h1
  obtain ⟨_, hq, eK⟩ := isId_data h2
  have R := rtab_of_valid hv
  obtain ⟨p, ep⟩ : ∃ p, setL L = p := ⟨_, rfl⟩
  obtain ⟨q, eq⟩ : ∃ p, setL K = p := ⟨_, rfl⟩
  rw [ep] at hp eL
  rw [eq] at hq eK
  subst eL
  subst eK
  have hc := R.colM_idl (q := q) hp hq.lt
  have hpr : Idl m (tabOf X) (tabOf Y) (genB m (tabOf X) (tabOf Y) (opsB m (tabOf Y) p q)) := R.gen_idl
  have hb := R.colM_idl (q := q) hpr hq.lt
  have hg : Idl m (tabOf X) (tabOf Y) (genB m (tabOf X) (tabOf Y) (opsB m (tabOf Y) (colM m (tabOf Y) p q) q)) := R.gen_idl
  have sw : ∀ {p q : Nat → Bool}, Idl m (tabOf X) (tabOf Y) p → Idl m (tabOf X) (tabOf Y) q → (∀ i, q i = true → p i = true) → opsB m (tabOf X) p q = p := fun {p q} hp hq h => by rw [R.sum_comm hp.lt hq.lt]; exact R.sum_in hq hp h
  rw [col_at hv hp hq, prd_at hv hc hq, sum_at hv hg hp, sum_at hv hc hp, prd_at hv hp hq, col_at hv hpr hq, sum_at hv hb hp]
  have hin : ∀ i, genB m (tabOf X) (tabOf Y) (opsB m (tabOf Y) (colM m (tabOf Y) p q) q) i = true → p i = true := fun i hi => gen_le hp (fun i h => by
    obtain ⟨a, b, ha, hb2, rfl⟩ := opsB_iff.1 h
    exact (colM_iff.1 ha).2 b hb2) hi
  exact ⟨by rw [R.sum_in hg hp hin], by rw [sw hc hp fun i hi => colM_iff.2 ⟨hp.lt i hi, fun y hy => hp.t i y hi (hq.lt y hy)⟩], by rw [sw hb hp fun i hi => colM_iff.2 ⟨hp.lt i hi, fun y hy => prd_ge hp hq (fun _ _ h h' => R.pc h h') hi hy⟩], isId_of hv hc⟩
end
end Go.Proofs.Ytdhjcgbaaghnoaa
