
import Derived.Test.YtajoimopahibcaaLEG
import Derived.Test.YtajoimopahibcaaMJ
import Derived.Test.YtajoimopahibcaaMS
/- Plain facts: the classes by an ideal are a ring; ideals of it; the quotient of the quotient. -/
namespace Go.Proofs.Ytajoimopahibcaa
open Go.RowKit

section
variable {m e : Nat} {S P : Nat → Nat} {p : Nat → Bool}
theorem RTab.lea_nam (R : RTab m S P e) (hp : Idl m S P p) {u : Nat} (hu : u < m) : cosB m S p (leaN m S p (namK m S p m u)) u = true := by
  obtain ⟨a, ha, hc⟩ := R.leas_cover hp (Nat.le_refl m) hu
  obtain ⟨h1, h2⟩ := nam_get (m := m) (S := S) (p := p) (k := m) (x := u) (List.any_eq_true.2 ⟨a, ha, hc⟩)
  have := lea_get (m := m) (S := S) (p := p) (i := namK m S p m u) h1
  rw [List.getElem?_eq_getElem h1] at this
  simp only [Option.some.injEq] at this
  rw [← this]
  exact h2
theorem RTab.nam_lt' (R : RTab m S P e) (hp : Idl m S P p) {u : Nat} (hu : u < m) : namK m S p m u < qN m S p := R.nam_lt hp hu
/-- The class of an element is told by any element of it. -/
theorem RTab.nam_of (R : RTab m S P e) (hp : Idl m S P p) {i u : Nat} (hi : i < qN m S p) (h : cosB m S p (leaN m S p i) u = true) : namK m S p m u = i := by
  have hi' : i < (leas m S p m).length := hi
  refine R.nam_uniq hp (Nat.le_refl m) hi' ?_
  have := lea_get (m := m) (S := S) (p := p) hi
  rw [List.getElem?_eq_getElem hi'] at this
  simp only [Option.some.injEq] at this
  rw [this]
  exact h
theorem RTab.nam_lea (R : RTab m S P e) (hp : Idl m S P p) {i : Nat} (hi : i < qN m S p) : namK m S p m (leaN m S p i) = i := R.nam_of hp hi (R.cos_refl hp (lea_lt hi))
theorem RTab.nam_eq (R : RTab m S P e) (hp : Idl m S P p) {u v : Nat} (hu : u < m) (h : cosB m S p u v = true) : namK m S p m u = namK m S p m v :=
  (R.nam_of hp (R.nam_lt' hp hu) (R.cos_trans hp (lea_lt (R.nam_lt' hp hu)) (R.lea_nam hp hu) h)).symm
theorem RTab.cos_nam (R : RTab m S P e) (hp : Idl m S P p) {u v : Nat} (hu : u < m) (hv : v < m) (h : namK m S p m u = namK m S p m v) : cosB m S p u v = true := by
  have h1 := R.lea_nam hp hu
  rw [h] at h1
  exact R.cos_trans hp hu (R.cos_symm hp (lea_lt (R.nam_lt' hp hv)) h1) (R.lea_nam hp hv)
theorem RTab.cos_sum (R : RTab m S P e) (hp : Idl m S P p) {u u' v v' : Nat} (hu : u < m) (hv : v < m) (h : cosB m S p u u' = true) (k : cosB m S p v v' = true) : cosB m S p (S (u * m + v)) (S (u' * m + v')) = true := by
  obtain ⟨b, hb, rfl⟩ := cos_iff.1 h
  obtain ⟨c, hc, rfl⟩ := cos_iff.1 k
  exact cos_iff.2 ⟨S (b * m + c), hp.s b c hb hc, R.A4 hu hv (hp.lt b hb) (hp.lt c hc)⟩
theorem RTab.cos_prd (R : RTab m S P e) (hp : Idl m S P p) {u u' v v' : Nat} (hu : u < m) (hv : v < m) (h : cosB m S p u u' = true) (k : cosB m S p v v' = true) : cosB m S p (P (u * m + v)) (P (u' * m + v')) = true := by
  obtain ⟨b, hb, rfl⟩ := cos_iff.1 h
  obtain ⟨c, hc, rfl⟩ := cos_iff.1 k
  have bm := hp.lt b hb
  have cm := hp.lt c hc
  have vc := R.sc hv cm
  refine cos_iff.2 ⟨S (P (u * m + c) * m + P (b * m + S (v * m + c))), hp.s _ _ (by rw [R.Mcs hu cm]; exact hp.t c u hc hu) (hp.t b _ hb vc), ?_⟩
  rw [R.Mcs (R.sc hu bm) vc, R.Md vc hu bm, R.Mcs vc hu, R.Mcs vc bm, R.Md hu hv cm]
  exact (R.Aas (R.pc hu hv) (R.pc hu cm) (R.pc bm vc)).symm
/-- Sums of classes are told by any of their elements. -/
theorem RTab.quo_sum (R : RTab m S P e) (hp : Idl m S P p) {u v : Nat} (hu : u < m) (hv : v < m) : quoF m S p S (namK m S p m u * qN m S p + namK m S p m v) = namK m S p m (S (u * m + v)) := by
  rw [quo_at (R.nam_lt' hp hv)]
  have l1 := lea_lt (R.nam_lt' hp hu)
  have l2 := lea_lt (R.nam_lt' hp hv)
  exact R.nam_eq hp (R.sc l1 l2) (R.cos_sum hp l1 l2 (R.lea_nam hp hu) (R.lea_nam hp hv))
theorem RTab.quo_prd (R : RTab m S P e) (hp : Idl m S P p) {u v : Nat} (hu : u < m) (hv : v < m) : quoF m S p P (namK m S p m u * qN m S p + namK m S p m v) = namK m S p m (P (u * m + v)) := by
  rw [quo_at (R.nam_lt' hp hv)]
  have l1 := lea_lt (R.nam_lt' hp hu)
  have l2 := lea_lt (R.nam_lt' hp hv)
  exact R.nam_eq hp (R.pc l1 l2) (R.cos_prd hp l1 l2 (R.lea_nam hp hu) (R.lea_nam hp hv))
theorem RTab.nam_zero (R : RTab m S P e) (hp : Idl m S P p) : namK m S p m 0 = 0 := by
  have h0 := R.hm
  have hc := R.nam_lt' hp h0
  have h1 := R.lea_nam hp h0
  have h2 : leaN m S p (namK m S p m 0) ≤ 0 := R.leas_least hp (Nat.le_refl m) (List.mem_of_getElem? (lea_get hc)) h1
  -- the first of the least elements
  have h3 : 0 < qN m S p := by omega
  have h4 := lea_lt h3
  have pre : ∀ k, 1 ≤ k → (leas m S p k)[0]? = some 0 := by
    intro k hk
    induction k with
    | zero => omega
    | succ k ih =>
      by_cases hk1 : k = 0
      · subst hk1
        have : leas m S p 1 = [0] := by rw [leas_yes (by rfl)]; rfl
        rw [this]; rfl
      · have ih' := ih (by omega)
        cases hc : (leas m S p k).any (fun a => cosB m S p a k)
        · rw [leas_yes hc, List.getElem?_append_left (List.getElem?_eq_some_iff.1 ih').1]; exact ih'
        · rw [leas_no hc]; exact ih'
  have h5 : leaN m S p 0 = 0 := by unfold leaN; rw [pre m h0]; rfl
  have h6 := R.nam_lea hp h3
  rw [h5] at h6
  exact h6
/-- The classes are a ring. -/
theorem RTab.quo_fring (R : RTab m S P e) (hp : Idl m S P p) : FRing (qN m S p) (namK m S p m e) (fun a b => namK m S p m (S (leaN m S p a * m + leaN m S p b))) (fun a b => namK m S p m (P (leaN m S p a * m + leaN m S p b))) := by
  have hs : ∀ {u v : Nat}, u < m → v < m → namK m S p m (S (leaN m S p (namK m S p m u) * m + leaN m S p (namK m S p m v))) = namK m S p m (S (u * m + v)) := fun {u v} hu hv => by
    have := R.quo_sum hp hu hv
    rwa [quo_at (R.nam_lt' hp hv)] at this
  have ht : ∀ {u v : Nat}, u < m → v < m → namK m S p m (P (leaN m S p (namK m S p m u) * m + leaN m S p (namK m S p m v))) = namK m S p m (P (u * m + v)) := fun {u v} hu hv => by
    have := R.quo_prd hp hu hv
    rwa [quo_at (R.nam_lt' hp hv)] at this
  have lift : ∀ {a : Nat}, a < qN m S p → ∃ u, u < m ∧ namK m S p m u = a := fun {a} ha => ⟨_, lea_lt ha, R.nam_lea hp ha⟩
  have he := R.he
  refine ⟨R.cnt_pos hp, R.nam_lt' hp he, fun a b ha hb => R.nam_lt' hp (R.sc (lea_lt ha) (lea_lt hb)), fun a b ha hb => R.nam_lt' hp (R.pc (lea_lt ha) (lea_lt hb)), ?_, ?_, ?_, ?_, ?_, ?_, ?_, ?_⟩
  · intro a ha
    obtain ⟨u, hu, rfl⟩ := lift ha
    have := hs hu R.hm
    rw [R.nam_zero hp, R.A00 hu] at this
    exact this
  · intro a b ha hb
    show namK m S p m _ = namK m S p m _
    rw [R.Acs (lea_lt ha) (lea_lt hb)]
  · intro a b c ha hb hc
    obtain ⟨u, hu, rfl⟩ := lift ha
    obtain ⟨v, hv, rfl⟩ := lift hb
    obtain ⟨x, hx, rfl⟩ := lift hc
    show namK m S p m (S (leaN m S p (namK m S p m _) * m + _)) = namK m S p m (S (_ * m + leaN m S p (namK m S p m _)))
    rw [hs hu hv, hs hv hx, hs (R.sc hu hv) hx, hs hu (R.sc hv hx), R.Aas hu hv hx]
  · intro a ha
    obtain ⟨u, hu, rfl⟩ := lift ha
    obtain ⟨c, cm, _, hc⟩ := R.negEx hu
    refine ⟨_, R.nam_lt' hp cm, ?_⟩
    show namK m S p m _ = 0
    rw [hs hu cm, hc, R.nam_zero hp]
  · intro a ha
    obtain ⟨u, hu, rfl⟩ := lift ha
    show namK m S p m _ = _
    rw [ht hu he, R.M11 hu]
  · intro a b ha hb
    show namK m S p m _ = namK m S p m _
    rw [R.Mcs (lea_lt ha) (lea_lt hb)]
  · intro a b c ha hb hc
    obtain ⟨u, hu, rfl⟩ := lift ha
    obtain ⟨v, hv, rfl⟩ := lift hb
    obtain ⟨x, hx, rfl⟩ := lift hc
    show namK m S p m (P (leaN m S p (namK m S p m _) * m + _)) = namK m S p m (P (_ * m + leaN m S p (namK m S p m _)))
    rw [ht hu hv, ht hv hx, ht (R.pc hu hv) hx, ht hu (R.pc hv hx), R.Mas hu hv hx]
  · intro a b c ha hb hc
    obtain ⟨u, hu, rfl⟩ := lift ha
    obtain ⟨v, hv, rfl⟩ := lift hb
    obtain ⟨x, hx, rfl⟩ := lift hc
    show namK m S p m (P (_ * m + leaN m S p (namK m S p m _))) = namK m S p m (S (leaN m S p (namK m S p m _) * m + leaN m S p (namK m S p m _)))
    rw [hs hv hx, ht hu (R.sc hv hx), ht hu hv, ht hu hx, hs (R.pc hu hv) (R.pc hu hx), R.Md hu hv hx]
theorem numL_tab {c : Nat} {f : Nat → Nat} {k : Nat} (hk : k < c) : tabOf (numL c f) k = f k := by
  unfold tabOf numL
  rw [List.getElem?_map, List.getElem?_range hk]
  rfl
theorem RTab.quo_valid (R : RTab m S P e) (hm' : m ≤ 16) (hp : Idl m S P p) : validB (qN m S p : Int) (namK m S p m e : Int) (numL (qN m S p * qN m S p) (quoF m S p S)) (numL (qN m S p * qN m S p) (quoF m S p P)) = true :=
  (R.quo_fring hp).valid (Nat.le_trans cnt_le hm')

/-- What an ideal's elements are called in the quotient. -/
theorem img_iff {q : Nat → Bool} {i : Nat} : imgB m S p q i = true ↔ ∃ x, x < m ∧ q x = true ∧ namK m S p m x = i := by
  unfold imgB
  rw [memB_iff, List.mem_map]
  constructor
  · rintro ⟨x, hx, rfl⟩
    obtain ⟨h1, h2⟩ := lst_in.1 hx
    exact ⟨x, h1, h2, rfl⟩
  · rintro ⟨x, h1, h2, rfl⟩
    exact ⟨x, lst_in.2 ⟨h1, h2⟩, rfl⟩
theorem RTab.img_idl (R : RTab m S P e) (hp : Idl m S P p) {q : Nat → Bool} (hq : Idl m S P q) : Idl (qN m S p) (tabOf (numL (qN m S p * qN m S p) (quoF m S p S))) (tabOf (numL (qN m S p * qN m S p) (quoF m S p P))) (imgB m S p q) := by
  have lift : ∀ {a : Nat}, a < qN m S p → ∃ u, u < m ∧ namK m S p m u = a := fun {a} ha => ⟨_, lea_lt ha, R.nam_lea hp ha⟩
  have idx : ∀ {i j : Nat}, i < qN m S p → j < qN m S p → i * qN m S p + j < qN m S p * qN m S p := fun {i j} hi hj => idx_lt hi hj
  refine ⟨fun i hi => ?_, ?_, fun i j hi hj => ?_, fun i j hi hj => ?_⟩
  · obtain ⟨x, h1, _, rfl⟩ := img_iff.1 hi
    exact R.nam_lt' hp h1
  · exact img_iff.2 ⟨0, R.hm, hq.z, R.nam_zero hp⟩
  · obtain ⟨x, h1, h2, rfl⟩ := img_iff.1 hi
    obtain ⟨y, k1, k2, rfl⟩ := img_iff.1 hj
    rw [numL_tab (idx (R.nam_lt' hp h1) (R.nam_lt' hp k1)), R.quo_sum hp h1 k1]
    exact img_iff.2 ⟨_, R.sc h1 k1, hq.s x y h2 k2, rfl⟩
  · obtain ⟨x, h1, h2, rfl⟩ := img_iff.1 hi
    obtain ⟨y, k1, rfl⟩ := lift hj
    rw [numL_tab (idx (R.nam_lt' hp h1) (R.nam_lt' hp k1)), R.quo_prd hp h1 k1]
    exact img_iff.2 ⟨_, R.pc h1 k1, hq.t x y h2 k1, rfl⟩
/-- An element's class is one of the image exactly if it lies in the sum. -/
theorem RTab.img_sum (R : RTab m S P e) (hp : Idl m S P p) {q : Nat → Bool} (hq : Idl m S P q) {u : Nat} (hu : u < m) : imgB m S p q (namK m S p m u) = true ↔ opsB m S p q u = true := by
  rw [img_iff, opsB_iff]
  constructor
  · rintro ⟨x, h1, h2, h3⟩
    obtain ⟨b, hb, rfl⟩ := cos_iff.1 (R.cos_nam hp h1 hu h3)
    exact ⟨b, x, hb, h2, R.Acs (hp.lt b hb) h1⟩
  · rintro ⟨b, x, hb, hx, rfl⟩
    have bm := hp.lt b hb
    have xm := hq.lt x hx
    exact ⟨x, xm, hx, R.nam_eq hp xm (cos_iff.2 ⟨b, hb, R.Acs xm bm⟩)⟩
end

/-- Two ascending lists with the same numbers are the same. -/
theorem asc_uniq : ∀ {L K : List Nat}, L.Pairwise (· < ·) → K.Pairwise (· < ·) → (∀ x, x ∈ L ↔ x ∈ K) → L = K
  | [], [], _, _, _ => rfl
  | [], b :: K, _, _, h => absurd ((h b).2 (List.mem_cons_self ..)) (by simp)
  | a :: L, [], _, _, h => absurd ((h a).1 (List.mem_cons_self ..)) (by simp)
  | a :: L, b :: K, hL, hK, h => by
    obtain ⟨hl, hL'⟩ := List.pairwise_cons.1 hL
    obtain ⟨hk, hK'⟩ := List.pairwise_cons.1 hK
    have hab : a = b := by
      rcases List.mem_cons.1 ((h a).1 (List.mem_cons_self ..)) with h1 | h1
      · exact h1
      · rcases List.mem_cons.1 ((h b).2 (List.mem_cons_self ..)) with h2 | h2
        · exact h2.symm
        · have := hk a h1
          have := hl b h2
          omega
    subst hab
    congr 1
    refine asc_uniq hL' hK' fun x => ?_
    have hx := h x
    rw [List.mem_cons, List.mem_cons] at hx
    constructor
    · intro hm
      rcases hx.1 (.inr hm) with rfl | h1
      · have := hl x hm; omega
      · exact h1
    · intro hm
      rcases hx.2 (.inr hm) with rfl | h1
      · have := hk x hm; omega
      · exact h1

section
variable {m e : Nat} {S P : Nat → Nat} {p : Nat → Bool}
theorem leas_asc : ∀ k, (leas m S p k).Pairwise (· < ·)
  | 0 => List.Pairwise.nil
  | k + 1 => by
    cases hc : (leas m S p k).any (fun a => cosB m S p a k)
    · rw [leas_yes hc, List.pairwise_append]
      refine ⟨leas_asc k, by simp, fun a ha b hb => ?_⟩
      rw [List.mem_singleton] at hb
      subst hb
      exact leas_lt ha
    · rw [leas_no hc]; exact leas_asc k
theorem lea_mono {i j : Nat} (hj : j < qN m S p) (h : i < j) : leaN m S p i < leaN m S p j := by
  have hi : i < qN m S p := by omega
  have h1 := List.pairwise_iff_getElem.1 (leas_asc (m := m) (S := S) (p := p) m) i j hi hj h
  have e1 := lea_get (m := m) (S := S) (p := p) hi
  have e2 := lea_get (m := m) (S := S) (p := p) hj
  rw [List.getElem?_eq_getElem hi] at e1
  rw [List.getElem?_eq_getElem hj] at e2
  simp only [Option.some.injEq] at e1 e2
  rw [← e1, ← e2]
  exact h1
/-- A least element is one that no smaller element shares its class with. -/
theorem RTab.lea_iff (R : RTab m S P e) (hp : Idl m S P p) {a : Nat} (ha : a < m) : a ∈ leas m S p m ↔ ∀ y, y < a → cosB m S p y a = false := by
  constructor
  · intro h y hy
    cases hc : cosB m S p y a with
    | false => rfl
    | true =>
      have := R.leas_least hp (Nat.le_refl m) h (R.cos_symm hp (by omega) hc)
      omega
  · intro h
    obtain ⟨b, hb, hc⟩ := R.leas_cover hp (Nat.le_refl m) ha
    have hle := R.leas_least hp (Nat.le_refl m) hb hc
    by_cases hba : b = a
    · subst hba; exact hb
    · have := h b (by omega)
      rw [hc] at this
      cases this
theorem lea_mem {a : Nat} : a ∈ leas m S p m ↔ ∃ i, i < qN m S p ∧ leaN m S p i = a := by
  constructor
  · intro h
    obtain ⟨i, hi⟩ := List.getElem?_of_mem h
    have h1 := (List.getElem?_eq_some_iff.1 hi).1
    refine ⟨i, h1, ?_⟩
    have := lea_get (m := m) (S := S) (p := p) h1
    rw [hi] at this
    simp only [Option.some.injEq] at this
    exact this.symm
  · rintro ⟨i, hi, rfl⟩
    exact List.mem_of_getElem? (lea_get hi)

/-- The quotient of the quotient is the quotient by the sum: numbers, tables. -/
theorem RTab.quo_quo (R : RTab m S P e) (hm' : m ≤ 16) (hp : Idl m S P p) {q : Nat → Bool} (hq : Idl m S P q) {c : Nat} (hc : qN m S p = c) {QS QP : Nat → Nat} (hQS : tabOf (numL (c * c) (quoF m S p S)) = QS) (hQP : tabOf (numL (c * c) (quoF m S p P)) = QP) {i : Nat → Bool} (hi : imgB m S p q = i) {s : Nat → Bool} (hs : opsB m S p q = s) :
    qN c QS i = qN m S s ∧ namK c QS i c (namK m S p m e) = namK m S s m e ∧
    (∀ k, k < qN c QS i * qN c QS i → quoF c QS i QS k = quoF m S s S k) ∧ (∀ k, k < qN c QS i * qN c QS i → quoF c QS i QP k = quoF m S s P k) := by
  have hsI : Idl m S P s := by rw [← hs]; exact R.sum_idl hp hq
  have hv := R.quo_valid hm' hp
  have R2 := rtab_of_valid hv
  have hiI := R.img_idl hp hq
  rw [hc, hQS, hQP] at hiI R2
  rw [hi] at hiI
  have nlt : ∀ {u : Nat}, u < m → namK m S p m u < c := fun {u} hu => by rw [← hc]; exact R.nam_lt' hp hu
  have llt : ∀ {a : Nat}, a < c → leaN m S p a < m := fun {a} ha => lea_lt (by rw [hc]; exact ha)
  have nl : ∀ {a : Nat}, a < c → namK m S p m (leaN m S p a) = a := fun {a} ha => R.nam_lea hp (by rw [hc]; exact ha)
  have qs : ∀ {u v : Nat}, u < m → v < m → QS (namK m S p m u * c + namK m S p m v) = namK m S p m (S (u * m + v)) := fun {u v} hu hv => by
    have := R.quo_sum hp hu hv
    rw [hc] at this
    rw [← hQS, numL_tab (idx_lt (nlt hu) (nlt hv))]
    exact this
  have qp : ∀ {u v : Nat}, u < m → v < m → QP (namK m S p m u * c + namK m S p m v) = namK m S p m (P (u * m + v)) := fun {u v} hu hv => by
    have := R.quo_prd hp hu hv
    rw [hc] at this
    rw [← hQP, numL_tab (idx_lt (nlt hu) (nlt hv))]
    exact this
  have mem : ∀ {u : Nat}, u < m → (i (namK m S p m u) = true ↔ s u = true) := fun {u} hu => by rw [← hi, ← hs]; exact R.img_sum hp hq hu
  -- two classes are of one class exactly if their elements are
  have cls : ∀ {u v : Nat}, u < m → v < m → (cosB c QS i (namK m S p m u) (namK m S p m v) = true ↔ cosB m S s u v = true) := fun {u v} hu hv => by
    rw [cos_iff, cos_iff]
    constructor
    · rintro ⟨b, hb, h⟩
      have hbc := hiI.lt b hb
      have hb2 : s (leaN m S p b) = true := (mem (llt hbc)).1 (by rw [nl hbc]; exact hb)
      have h2 : namK m S p m (S (u * m + leaN m S p b)) = namK m S p m v := by rw [← qs hu (llt hbc), nl hbc]; exact h
      obtain ⟨x, hx, hx2⟩ := cos_iff.1 (R.cos_nam hp (R.sc hu (llt hbc)) hv h2)
      refine ⟨S (leaN m S p b * m + x), hsI.s _ _ hb2 (by rw [← hs]; exact R.sum_left hp hq hx), ?_⟩
      rw [← R.Aas hu (llt hbc) (hp.lt x hx)]
      exact hx2
    · rintro ⟨b, hb, rfl⟩
      have bm := hsI.lt b hb
      exact ⟨namK m S p m b, (mem bm).2 hb, qs hu bm⟩
  have hleas : leas m S s m = (leas c QS i c).map (leaN m S p) := by
    refine asc_uniq (leas_asc m) ?_ fun x => ?_
    · rw [List.pairwise_map]
      refine List.Pairwise.imp_of_mem ?_ (leas_asc (m := c) (S := QS) (p := i) c)
      intro a b _ hb hab
      exact lea_mono (by rw [hc]; exact leas_lt hb) hab
    · rw [List.mem_map]
      constructor
      · intro hx
        have hxm := leas_lt hx
        have hle := (R.lea_iff hsI hxm).1 hx
        have hxp : x ∈ leas m S p m := (R.lea_iff hp hxm).2 fun y hy => by
          cases hcc : cosB m S p y x with
          | false => rfl
          | true =>
            obtain ⟨b, hb, h⟩ := cos_iff.1 hcc
            have : cosB m S s y x = true := cos_iff.2 ⟨b, by rw [← hs]; exact R.sum_left hp hq hb, h⟩
            rw [hle y hy] at this
            cases this
        obtain ⟨j, hj, rfl⟩ := lea_mem.1 hxp
        rw [hc] at hj
        refine ⟨j, (R2.lea_iff hiI hj).2 fun y hy => ?_, rfl⟩
        have hyc : y < c := by omega
        cases hcc : cosB c QS i y j with
        | false => rfl
        | true =>
          have h1 := (cls (llt hyc) (llt hj)).1 (by rw [nl hyc, nl hj]; exact hcc)
          have h2 : leaN m S p y < leaN m S p j := lea_mono (by rw [hc]; exact hj) hy
          rw [hle _ h2] at h1
          cases h1
      · rintro ⟨j, hj, rfl⟩
        have hjc := leas_lt hj
        have hle := (R2.lea_iff hiI hjc).1 hj
        refine (R.lea_iff hsI (llt hjc)).2 fun y hy => ?_
        have hym : y < m := by have := llt hjc; omega
        cases hcc : cosB m S s y (leaN m S p j) with
        | false => rfl
        | true =>
          have h1 := (cls hym (llt hjc)).2 hcc
          rw [nl hjc] at h1
          have h2 : namK m S p m y < j := by
            have h3 : leaN m S p (namK m S p m y) ≤ y := R.leas_least hp (Nat.le_refl m) (List.mem_of_getElem? (lea_get (R.nam_lt' hp hym))) (R.lea_nam hp hym)
            rcases Nat.lt_or_ge (namK m S p m y) j with h4 | h4
            · exact h4
            · exfalso
              rcases Nat.eq_or_lt_of_le h4 with h5 | h5
              · rw [← h5] at h3; omega
              · have := lea_mono (m := m) (S := S) (p := p) (R.nam_lt' hp hym) h5
                omega
          rw [hle _ h2] at h1
          cases h1
  have hqn : qN c QS i = qN m S s := by unfold qN; rw [hleas, List.length_map]
  have hlea : ∀ {k : Nat}, k < qN c QS i → leaN m S s k = leaN m S p (leaN c QS i k) := fun {k} hk => by
    have h1 := lea_get (m := c) (S := QS) (p := i) hk
    have h2 := lea_get (m := m) (S := S) (p := s) (i := k) (by rw [← hqn]; exact hk)
    rw [hleas, List.getElem?_map, h1] at h2
    simp only [Option.map_some, Option.some.injEq] at h2
    exact h2.symm
  have hnam : ∀ {u : Nat}, u < m → namK c QS i c (namK m S p m u) = namK m S s m u := fun {u} hu => by
    have h1 := R2.nam_lt' hiI (nlt hu)
    have h2 := lea_lt h1
    refine (R.nam_of hsI (by rw [← hqn]; exact h1) ?_).symm
    rw [hlea h1]
    exact (cls (llt h2) hu).1 (by rw [nl h2]; exact R2.lea_nam hiI (nlt hu))
  refine ⟨hqn, hnam R.he, fun k hk => ?_, fun k hk => ?_⟩
  · obtain ⟨h1, h2⟩ := parts2 hk
    have e1 : k = k / qN c QS i * qN c QS i + k % qN c QS i := by rw [Nat.mul_comm]; exact (Nat.div_add_mod _ _).symm
    have a1 := lea_lt h1
    have a2 := lea_lt h2
    rw [e1, quo_at h2]
    have h2' : k % qN c QS i < qN m S s := by rw [← hqn]; exact h2
    have e2 : quoF m S s S (k / qN c QS i * qN c QS i + k % qN c QS i) = namK m S s m (S (leaN m S s (k / qN c QS i) * m + leaN m S s (k % qN c QS i))) := by
      have := quo_at (m := m) (S := S) (p := s) (T := S) (i := k / qN c QS i) h2'
      rw [hqn] at this ⊢
      exact this
    rw [e2, hlea h1, hlea h2, ← hnam (R.sc (llt a1) (llt a2)), ← qs (llt a1) (llt a2), nl a1, nl a2]
  · obtain ⟨h1, h2⟩ := parts2 hk
    have e1 : k = k / qN c QS i * qN c QS i + k % qN c QS i := by rw [Nat.mul_comm]; exact (Nat.div_add_mod _ _).symm
    have a1 := lea_lt h1
    have a2 := lea_lt h2
    rw [e1, quo_at h2]
    have h2' : k % qN c QS i < qN m S s := by rw [← hqn]; exact h2
    have e2 : quoF m S s P (k / qN c QS i * qN c QS i + k % qN c QS i) = namK m S s m (P (leaN m S s (k / qN c QS i) * m + leaN m S s (k % qN c QS i))) := by
      have := quo_at (m := m) (S := S) (p := s) (T := P) (i := k / qN c QS i) h2'
      rw [hqn] at this ⊢
      exact this
    rw [e2, hlea h1, hlea h2, ← hnam (R.pc (llt a1) (llt a2)), ← qp (llt a1) (llt a2), nl a1, nl a2]
end
end Go.Proofs.Ytajoimopahibcaa

