
import Derived.Test.YtajoimopahibcaaGreatLEG
import Derived.Test.YtajoimopahibcaaGreatMJ
import Derived.Test.YtajoimopahibcaaGreatMS
/- Plain facts: the classes by an ideal are a ring; ideals of it; the quotient of the quotient. -/
namespace Go.Proofs.YtajoimopahibcaaGreat
open Go.RowKit

section
variable {m e : Nat} {S P : Nat → Nat} {p : Nat → Bool}
theorem RTab.lea_nam (R : RTab m S P e) (hp : Idl m S P p) {u : Nat} (hu : u < m) : cosB m S p (leaN m S p (namK m S p m u)) u = true := by
  obtain ⟨a, ha, hc⟩ := R.leas_cover hp (Nat.le_refl m) hu
  obtain ⟨h1, h2⟩ := nam_get (m := m) (S := S) (p := p) (k := m) (x := u) (List.any_eq_true.2 ⟨a, ha, hc⟩)
  have := lea_get (m := m) (S := S) (p := p) (i := namK m S p m u) h1
  rw [List.getElem?_eq_getElem h1] at this
  simp only [Option.some.injEq] at this
  rw [← this]
  exact h2
theorem RTab.nam_lt' (R : RTab m S P e) (hp : Idl m S P p) {u : Nat} (hu : u < m) : namK m S p m u < qN m S p := R.nam_lt hp hu
/-- The class of an element is told by any element of it. -/
theorem RTab.nam_of (R : RTab m S P e) (hp : Idl m S P p) {i u : Nat} (hi : i < qN m S p) (h : cosB m S p (leaN m S p i) u = true) : namK m S p m u = i := by
  have hi' : i < (leas m S p m).length := hi
  refine R.nam_uniq hp (Nat.le_refl m) hi' ?_
  have := lea_get (m := m) (S := S) (p := p) hi
  rw [List.getElem?_eq_getElem hi'] at this
  simp only [Option.some.injEq] at this
  rw [this]
  exact h
theorem RTab.nam_lea (R : RTab m S P e) (hp : Idl m S P p) {i : Nat} (hi : i < qN m S p) : namK m S p m (leaN m S p i) = i := R.nam_of hp hi (R.cos_refl hp (lea_lt hi))
theorem RTab.nam_eq (R : RTab m S P e) (hp : Idl m S P p) {u v : Nat} (hu : u < m) (h : cosB m S p u v = true) : namK m S p m u = namK m S p m v :=
  (R.nam_of hp (R.nam_lt' hp hu) (R.cos_trans hp (lea_lt (R.nam_lt' hp hu)) (R.lea_nam hp hu) h)).symm
theorem RTab.cos_nam (R : RTab m S P e) (hp : Idl m S P p) {u v : Nat} (hu : u < m) (hv : v < m) (h : namK m S p m u = namK m S p m v) : cosB m S p u v = true := by
  have h1 := R.lea_nam hp hu
  rw [h] at h1
  exact R.cos_trans hp hu (R.cos_symm hp (lea_lt (R.nam_lt' hp hv)) h1) (R.lea_nam hp hv)
theorem RTab.cos_sum (R : RTab m S P e) (hp : Idl m S P p) {u u' v v' : Nat} (hu : u < m) (hv : v < m) (h : cosB m S p u u' = true) (k : cosB m S p v v' = true) : cosB m S p (S (u * m + v)) (S (u' * m + v')) = true := by
  obtain ⟨b, hb, rfl⟩ := cos_iff.1 h
  obtain ⟨c, hc, rfl⟩ := cos_iff.1 k
  exact cos_iff.2 ⟨S (b * m + c), hp.s b c hb hc, R.A4 hu hv (hp.lt b hb) (hp.lt c hc)⟩
theorem RTab.cos_prd (R : RTab m S P e) (hp : Idl m S P p) {u u' v v' : Nat} (hu : u < m) (hv : v < m) (h : cosB m S p u u' = true) (k : cosB m S p v v' = true) : cosB m S p (P (u * m + v)) (P (u' * m + v')) = true := by
  obtain ⟨b, hb, rfl⟩ := cos_iff.1 h
  obtain ⟨c, hc, rfl⟩ := cos_iff.1 k
  have bm := hp.lt b hb
  have cm := hp.lt c hc
  have vc := R.sc hv cm
  refine cos_iff.2 ⟨S (P (u * m + c) * m + P (b * m + S (v * m + c))), hp.s _ _ (by rw [R.Mcs hu cm]; exact hp.t c u hc hu) (hp.t b _ hb vc), ?_⟩
  rw [R.Mcs (R.sc hu bm) vc, R.Md vc hu bm, R.Mcs vc hu, R.Mcs vc bm, R.Md hu hv cm]
  exact (R.Aas (R.pc hu hv) (R.pc hu cm) (R.pc bm vc)).symm
/-- Sums of classes are told by any of their elements. -/
theorem RTab.quo_sum (R : RTab m S P e) (hp : Idl m S P p) {u v : Nat} (hu : u < m) (hv : v < m) : quoF m S p S (namK m S p m u * qN m S p + namK m S p m v) = namK m S p m (S (u * m + v)) := by
  rw [quo_at (R.nam_lt' hp hv)]
  have l1 := lea_lt (R.nam_lt' hp hu)
  have l2 := lea_lt (R.nam_lt' hp hv)
  exact R.nam_eq hp (R.sc l1 l2) (R.cos_sum hp l1 l2 (R.lea_nam hp hu) (R.lea_nam hp hv))
theorem RTab.quo_prd (R : RTab m S P e) (hp : Idl m S P p) {u v : Nat} (hu : u < m) (hv : v < m) : quoF m S p P (namK m S p m u * qN m S p + namK m S p m v) = namK m S p m (P (u * m + v)) := by
  rw [quo_at (R.nam_lt' hp hv)]
  have l1 := lea_lt (R.nam_lt' hp hu)
  have l2 := lea_lt (R.nam_lt' hp hv)
  exact R.nam_eq hp (R.pc l1 l2) (R.cos_prd hp l1 l2 (R.lea_nam hp hu) (R.lea_nam hp hv))
theorem RTab.nam_zero (R : RTab m S P e) (hp : Idl m S P p) : namK m S p m 0 = 0 := by
  have h0 := R.hm
  have hc := R.nam_lt' hp h0
  have h1 := R.lea_nam hp h0
  have h2 : leaN m S p (namK m S p m 0) ≤ 0 := R.leas_least hp (Nat.le_refl m) (List.mem_of_getElem? (lea_get hc)) h1
  -- the first of the least elements
  have h3 : 0 < qN m S p := by omega
  have h4 := lea_lt h3
  have pre : ∀ k, 1 ≤ k → (leas m S p k)[0]? = some 0 := by
    intro k hk
    induction k with
    | zero => omega
    | succ k ih =>
      by_cases hk1 : k = 0
      · subst hk1
        have : leas m S p 1 = [0] := by rw [leas_yes (by rfl)]; rfl
        rw [this]; rfl
      · have ih' := ih (by omega)
        cases hc : (leas m S p k).any (fun a => cosB m S p a k)
        · rw [leas_yes hc, List.getElem?_append_left (List.getElem?_eq_some_iff.1 ih').1]; exact ih'
        · rw [leas_no hc]; exact ih'
  have h5 : leaN m S p 0 = 0 := by unfold leaN; rw [pre m h0]; rfl
  have h6 := R.nam_lea hp h3
  rw [h5] at h6
  exact h6
/-- The classes are a ring. -/
theorem RTab.quo_fring (R : RTab m S P e) (hp : Idl m S P p) : FRing (qN m S p) (namK m S p m e) (fun a b => namK m S p m (S (leaN m S p a * m + leaN m S p b))) (fun a b => namK m S p m (P (leaN m S p a * m + leaN m S p b))) := by
  have hs : ∀ {u v : Nat}, u < m → v < m → namK m S p m (S (leaN m S p (namK m S p m u) * m + leaN m S p (namK m S p m v))) = namK m S p m (S (u * m + v)) := fun {u v} hu hv => by
    have := R.quo_sum hp hu hv
    rwa [quo_at (R.nam_lt' hp hv)] at this
  have ht : ∀ {u v : Nat}, u < m → v < m → namK m S p m (P (leaN m S p (namK m S p m u) * m + leaN m S p (namK m S p m v))) = namK m S p m (P (u * m + v)) := fun {u v} hu hv => by
    have := R.quo_prd hp hu hv
    rwa [quo_at (R.nam_lt' hp hv)] at this
  have lift : ∀ {a : Nat}, a < qN m S p → ∃ u, u < m ∧ namK m S p m u = a := fun {a} ha => ⟨_, lea_lt ha, R.nam_lea hp ha⟩
  have he := R.he
  refine ⟨R.cnt_pos hp, R.nam_lt' hp he, fun a b ha hb => R.nam_lt' hp (R.sc (lea_lt ha) (lea_lt hb)), fun a b ha hb => R.nam_lt' hp (R.pc (lea_lt ha) (lea_lt hb)), ?_, ?_, ?_, ?_, ?_, ?_, ?_, ?_⟩
  · intro a ha
    obtain ⟨u, hu, rfl⟩ := lift ha
    have := hs hu R.hm
    rw [R.nam_zero hp, R.A00 hu] at this
    exact this
  · intro a b ha hb
    show namK m S p m _ = namK m S p m _
    rw [R.Acs (lea_lt ha) (lea_lt hb)]
  · intro a b c ha hb hc
    obtain ⟨u, hu, rfl⟩ := lift ha
    obtain ⟨v, hv, rfl⟩ := lift hb
    obtain ⟨x, hx, rfl⟩ := lift hc
    show namK m S p m (S (leaN m S p (namK m S p m _) * m + _)) = namK m S p m (S (_ * m + leaN m S p (namK m S p m _)))
    rw [hs hu hv, hs hv hx, hs (R.sc hu hv) hx, hs hu (R.sc hv hx), R.Aas hu hv hx]
  · intro a ha
    obtain ⟨u, hu, rfl⟩ := lift ha
    obtain ⟨c, cm, _, hc⟩ := R.negEx hu
    refine ⟨_, R.nam_lt' hp cm, ?_⟩
    show namK m S p m _ = 0
    rw [hs hu cm, hc, R.nam_zero hp]
  · intro a ha
    obtain ⟨u, hu, rfl⟩ := lift ha
    show namK m S p m _ = _
    rw [ht hu he, R.M11 hu]
  · intro a b ha hb
    show namK m S p m _ = namK m S p m _
    rw [R.Mcs (lea_lt ha) (lea_lt hb)]
  · intro a b c ha hb hc
    obtain ⟨u, hu, rfl⟩ := lift ha
    obtain ⟨v, hv, rfl⟩ := lift hb
    obtain ⟨x, hx, rfl⟩ := lift hc
    show namK m S p m (P (leaN m S p (namK m S p m _) * m + _)) = namK m S p m (P (_ * m + leaN m S p (namK m S p m _)))
    rw [ht hu hv, ht hv hx, ht (R.pc hu hv) hx, ht hu (R.pc hv hx), R.Mas hu hv hx]
  · intro a b c ha hb hc
    obtain ⟨u, hu, rfl⟩ := lift ha
    obtain ⟨v, hv, rfl⟩ := lift hb
    obtain ⟨x, hx, rfl⟩ := lift hc
    show namK m S p m (P (_ * m + leaN m S p (namK m S p m _))) = namK m S p m (S (leaN m S p (namK m S p m _) * m + leaN m S p (namK m S p m _)))
    rw [hs hv hx, ht hu (R.sc hv hx), ht hu hv, ht hu hx, hs (R.pc hu hv) (R.pc hu hx), R.Md hu hv hx]
theorem numL_tab {c : Nat} {f : Nat → Nat} {k : Nat} (hk : k < c) : tabOf (numL c f) k = f k := by
  unfold tabOf numL
  rw [List.getElem?_map, List.getElem?_range hk]
  rfl
theorem RTab.quo_valid (R : RTab m S P e) (hm' : m ≤ 16) (hp : Idl m S P p) : validB (qN m S p : Int) (namK m S p m e : Int) (numL (qN m S p * qN m S p) (quoF m S p S)) (numL (qN m S p * qN m S p) (quoF m S p P)) = true :=
  (R.quo_fring hp).valid (Nat.le_trans cnt_le hm')

/-- What an ideal's elements are called in the quotient. -/
theorem img_iff {q : Nat → Bool} {i : Nat} : imgB m S p q i = true ↔ ∃ x, x < m ∧ q x = true ∧ namK m S p m x = i := by
  unfold imgB
  rw [memB_iff, List.mem_map]
  constructor
  · rintro ⟨x, hx, rfl⟩
    obtain ⟨h1, h2⟩ := lst_in.1 hx
    exact ⟨x, h1, h2, rfl⟩
  · rintro ⟨x, h1, h2, rfl⟩
    exact ⟨x, lst_in.2 ⟨h1, h2⟩, rfl⟩
theorem RTab.img_idl (R : RTab m S P e) (hp : Idl m S P p) {q : Nat → Bool} (hq : Idl m S P q) : Idl (qN m S p) (tabOf (numL (qN m S p * qN m S p) (quoF m S p S))) (tabOf (numL (qN m S p * qN m S p) (quoF m S p P))) (imgB m S p q) := by
  have lift : ∀ {a : Nat}, a < qN m S p → ∃ u, u < m ∧ namK m S p m u = a := fun {a} ha => ⟨_, lea_lt ha, R.nam_lea hp ha⟩
  have idx : ∀ {i j : Nat}, i < qN m S p → j < qN m S p → i * qN m S p + j < qN m S p * qN m S p := fun {i j} hi hj => idx_lt hi hj
  refine ⟨fun i hi => ?_, ?_, fun i j hi hj => ?_, fun i j hi hj => ?_⟩
  · obtain ⟨x, h1, _, rfl⟩ := img_iff.1 hi
    exact R.nam_lt' hp h1
  · exact img_iff.2 ⟨0, R.hm, hq.z, R.nam_zero hp⟩
  · obtain ⟨x, h1, h2, rfl⟩ := img_iff.1 hi
    obtain ⟨y, k1, k2, rfl⟩ := img_iff.1 hj
    rw [numL_tab (idx (R.nam_lt' hp h1) (R.nam_lt' hp k1)), R.quo_sum hp h1 k1]
    exact img_iff.2 ⟨_, R.sc h1 k1, hq.s x y h2 k2, rfl⟩
  · obtain ⟨x, h1, h2, rfl⟩ := img_iff.1 hi
    obtain ⟨y, k1, rfl⟩ := lift hj
    rw [numL_tab (idx (R.nam_lt' hp h1) (R.nam_lt' hp k1)), R.quo_prd hp h1 k1]
    exact img_iff.2 ⟨_, R.pc h1 k1, hq.t x y h2 k1, rfl⟩
/-- An element's class is one of the image exactly if it lies in the sum. -/
theorem RTab.img_sum (R : RTab m S P e) (hp : Idl m S P p) {q : Nat → Bool} (hq : Idl m S P q) {u : Nat} (hu : u < m) : imgB m S p q (namK m S p m u) = true ↔ opsB m S p q u = true := by
  rw [img_iff, opsB_iff]
  constructor
  · rintro ⟨x, h1, h2, h3⟩
    obtain ⟨b, hb, rfl⟩ := cos_iff.1 (R.cos_nam hp h1 hu h3)
    exact ⟨b, x, hb, h2, R.Acs (hp.lt b hb) h1⟩
  · rintro ⟨b, x, hb, hx, rfl⟩
    have bm := hp.lt b hb
    have xm := hq.lt x hx
    exact ⟨x, xm, hx, R.nam_eq hp xm (cos_iff.2 ⟨b, hb, R.Acs xm bm⟩)⟩
end

section
variable {m e : Nat} {S P : Nat → Nat} {p : Nat → Bool}
end
end Go.Proofs.YtajoimopahibcaaGreat

