
import Derived.Test.YtajoimopahibcaaGreatLEK
import Derived.Test.YtajoimopahibcaaGreatMV
import Derived.Test.YtajoimopahibcaaGreatMG
import Derived.Test.YtajoimopahibcaaGreatLEA
/- Plain facts: the classes by an ideal have as many elements as it, and the quotient is a field if and only if the ideal is maximal. No program in sight. -/
namespace Go.Proofs.YtajoimopahibcaaGreat
open Go.RowKit

section
variable {m e : Nat} {S P : Nat → Nat} {p : Nat → Bool}
/-- A ring is a field if it has at least two elements, and each but zero has an inverse. -/
theorem RTab.field_iff (R : RTab m S P e) (hm' : m ≤ 16) : fieldB m P e = true ↔ 1 < m ∧ ∀ a, a < m → a ≠ 0 → ∃ b, b < m ∧ P (a * m + b) = e := by
  have h0 := field_same R.hm hm' R.pl R.s R.p R.he R.d R.n
  constructor
  · intro h
    have h1 : 1 < m := by
      unfold fieldB at h
      exact of_decide_eq_true (Bool.and_eq_true .. ▸ h).1
    rw [h] at h0
    unfold sameA at h0
    rw [decide_eq_true_iff] at h0
    refine ⟨h1, fun a ha hz => ?_⟩
    have := (h0 a (List.mem_range.2 (by omega))).2 (lst_in.2 ⟨ha, decide_eq_true hz⟩)
    have hu : unitB m P e a = true := (lst_in.1 this).2
    exact inv_unit.1 (of_decide_eq_true hu)
  · rintro ⟨h1, h2⟩
    rw [← h0]
    unfold sameA
    rw [decide_eq_true_iff]
    intro i _
    rw [lst_in, lst_in]
    refine and_congr_right fun hi => ?_
    show unitB m P e i = true ↔ notZ i = true
    constructor
    · intro hu
      refine decide_eq_true fun hz => ?_
      rw [hz, zero_no_unit R.pl R.s R.p R.he R.d R.n h1] at hu
      cases hu
    · intro hz
      exact decide_eq_true (inv_unit.2 (h2 i hi (of_decide_eq_true hz)))
theorem RTab.nam_zero_iff (R : RTab m S P e) (hp : Idl m S P p) {x : Nat} (hx : x < m) : namK m S p m x = 0 ↔ p x = true := by
  constructor
  · intro h
    obtain ⟨b, hb, hb2⟩ := cos_iff.1 (R.cos_nam hp R.hm hx (by rw [R.nam_zero hp, h]))
    rw [R.Acs R.hm (hp.lt b hb), R.A00 (hp.lt b hb)] at hb2
    exact hb2 ▸ hb
  · intro h
    rw [← R.nam_zero hp]
    exact (R.nam_eq hp R.hm (cos_iff.2 ⟨x, h, by rw [R.Acs R.hm hx, R.A00 hx]⟩)).symm
/-- A product of classes, as the quotient's table has it. -/
theorem RTab.quo_look (R : RTab m S P e) (hp : Idl m S P p) {T : Nat → Nat} (hT : ∀ u v, u < m → v < m → quoF m S p T (namK m S p m u * qN m S p + namK m S p m v) = namK m S p m (T (u * m + v))) {u v : Nat} (hu : u < m) (hv : v < m) :
    tabOf (numL (qN m S p * qN m S p) (quoF m S p T)) (namK m S p m u * qN m S p + namK m S p m v) = namK m S p m (T (u * m + v)) := by
  have h1 := R.nam_lt' hp hu
  have h2 := R.nam_lt' hp hv
  rw [numL_tab, hT u v hu hv]
  have : (namK m S p m u + 1) * qN m S p ≤ qN m S p * qN m S p := Nat.mul_le_mul_right _ h1
  rw [Nat.succ_mul] at this
  omega
theorem RTab.quo_field (R : RTab m S P e) (hm' : m ≤ 16) (hp : Idl m S P p) : fieldB (qN m S p) (tabOf (numL (qN m S p * qN m S p) (quoF m S p P))) (namK m S p m e) = maxB m S P p := by
  have R' := rtab_of_valid (R.quo_valid hm' hp)
  have look := fun {u v : Nat} (hu : u < m) (hv : v < m) => R.quo_look hp (T := P) (fun u v hu hv => R.quo_prd hp hu hv) hu hv
  rw [Bool.eq_iff_iff, R'.field_iff (Nat.le_trans cnt_le hm'), max_iff]
  constructor
  · rintro ⟨h1, h2⟩
    refine ⟨not_whole_iff.2 ⟨leaN m S p 1, lea_lt h1, ?_⟩, fun x hx px => ?_⟩
    · cases hq : p (leaN m S p 1) with
      | false => rfl
      | true =>
        have := (R.nam_zero_iff hp (lea_lt h1)).2 hq
        rw [R.nam_lea hp h1] at this
        cases this
    · have hn : namK m S p m x ≠ 0 := fun h => by rw [(R.nam_zero_iff hp hx).1 h] at px; cases px
      obtain ⟨b, hb, hbe⟩ := h2 _ (R.nam_lt' hp hx) hn
      obtain ⟨y, hy⟩ : ∃ y, leaN m S p b = y := ⟨_, rfl⟩
      have ym : y < m := by rw [← hy]; exact lea_lt hb
      rw [← R.nam_lea hp hb, hy, look hx ym] at hbe
      obtain ⟨z, hz, hz2⟩ := cos_iff.1 (R.cos_nam hp (R.pc hx ym) R.he hbe)
      exact R.whole_one (R.sum_idl hp (R.mul_idl hx)) (opsB_iff.2 ⟨z, P (x * m + y), hz, mulB_iff.2 ⟨y, ym, rfl⟩, by rw [R.Acs (hp.lt z hz) (R.pc hx ym)]; exact hz2⟩)
  · rintro ⟨h1, h2⟩
    obtain ⟨x0, hx0, px0⟩ := not_whole_iff.1 h1
    have c0 : namK m S p m x0 ≠ 0 := fun h => by rw [(R.nam_zero_iff hp hx0).1 h] at px0; cases px0
    have c1 := R.nam_lt' hp hx0
    refine ⟨by omega, fun a ha ha0 => ?_⟩
    obtain ⟨x, hx⟩ : ∃ x, leaN m S p a = x := ⟨_, rfl⟩
    have xm : x < m := by rw [← hx]; exact lea_lt ha
    have na : namK m S p m x = a := by rw [← hx]; exact R.nam_lea hp ha
    have px : p x = false := by
      cases hq : p x with
      | false => rfl
      | true => exact absurd (na ▸ (R.nam_zero_iff hp xm).2 hq) ha0
    obtain ⟨z, w, hz, hw, hzw⟩ := opsB_iff.1 (whole_iff.1 (h2 x xm px) e R.he)
    obtain ⟨y, ym, rfl⟩ := mulB_iff.1 hw
    refine ⟨namK m S p m y, R.nam_lt' hp ym, ?_⟩
    rw [← na, look xm ym]
    exact R.nam_eq hp (R.pc xm ym) (cos_iff.2 ⟨z, hz, by rw [R.Acs (R.pc xm ym) (hp.lt z hz)]; exact hzw⟩)
/-- There are as many classes as the ideal goes into the ring. -/
theorem RTab.cls_count (R : RTab m S P e) (hp : Idl m S P p) : qN m S p * (lstP m p).length = m := by
  have h := fibersN (c := (lstP m p).length) (namK m S p m) (List.range (qN m S p)) (List.range m) List.nodup_range (fun x hx => List.mem_range.2 (R.nam_lt' hp (List.mem_range.1 hx))) fun k hk => by
    have hk' := List.mem_range.1 hk
    rw [← R.cos_len hp (lea_lt hk')]
    refine ((List.perm_ext_iff_of_nodup (List.nodup_range.filter _) elsN_nodup).2 fun x => ?_).length_eq
    rw [List.mem_filter, lst_in, List.mem_range, decide_eq_true_iff]
    refine and_congr_right fun hx => ?_
    exact ⟨fun h => R.cos_nam hp (lea_lt hk') hx (by rw [R.nam_lea hp hk', h]), fun h => R.nam_of hp hk' h⟩
  rw [List.length_range, List.length_range] at h
  rw [Nat.mul_comm]
  exact h.symm
end
section
variable {m e : Nat} {X Y L : List Int}
theorem quM_at {p : Nat → Bool} (h : isIdB m e X Y L = true) (hp : setL L = p) : quM m e X Y L = numL m (namK m (tabOf X) p m) := by
  unfold quM
  rw [if_pos h, Int.toNat_natCast, hp]
/-- What FnQuotient wants. -/
theorem quotient_law (h : isIdB m e X Y L = true) (hm' : m ≤ 16) : ∃ (c e' : Nat) (QX QY : List Int) (f : Nat → Nat), quN m e X Y L = (c : Int) ∧ quO m e X Y L = (e' : Int) ∧ quS m e X Y L = QX ∧ quP m e X Y L = QY ∧ quM m e X Y L = numL m f ∧
    validB c e' QX QY = true ∧ fieldV c e' QX QY = mxmB m e X Y L ∧ c * L.length = m ∧ f e = e' ∧ (∀ k, k < m → f k < c) ∧
    (∀ u v, u < m → v < m → tabOf QX (f u * c + f v) = f (tabOf X (u * m + v))) ∧ (∀ u v, u < m → v < m → tabOf QY (f u * c + f v) = f (tabOf Y (u * m + v))) ∧
    (clssL m e X Y L).length = c ∧ ∀ i Z, (clssL m e X Y L)[i]? = some Z → Z.length = L.length ∧ ∀ x, x ∈ Z → ∃ a : Nat, x = (a : Int) ∧ a < m ∧ f a = i := by
  obtain ⟨hv, hp, eL⟩ := isId_data h
  have R := rtab_of_valid hv
  obtain ⟨p, ep⟩ : ∃ p, setL L = p := ⟨_, rfl⟩
  obtain ⟨a1, a2, a3, a4⟩ := quN_at h ep
  have hv' : validB m e X Y = true := hv
  rw [ep] at hp eL
  have qv := R.quo_valid hm' hp
  refine ⟨qN m (tabOf X) p, namK m (tabOf X) p m e, _, _, namK m (tabOf X) p m, a1, a2, a3, a4, quM_at h ep, qv, ?_, ?_, rfl, fun k hk => R.nam_lt' hp hk,
    fun u v hu hv => R.quo_look hp (fun u v hu hv => R.quo_sum hp hu hv) hu hv, fun u v hu hv => R.quo_look hp (fun u v hu hv => R.quo_prd hp hu hv) hu hv, ?_, fun i Z hZ => ?_⟩
  · unfold fieldV mxmB
    rw [qv, h, Bool.true_and, Bool.true_and, Int.toNat_natCast, Int.toNat_natCast, Int.toNat_natCast, ep]
    exact R.quo_field hm' hp
  · rw [eL]; exact R.cls_count hp
  · rw [clss_yes h, Int.toNat_natCast, ep]
    unfold clsL
    rw [List.length_map]; rfl
  · rw [clss_yes h, Int.toNat_natCast, ep] at hZ
    unfold clsL at hZ
    rw [List.getElem?_map, Option.map_eq_some_iff] at hZ
    obtain ⟨a, ha, rfl⟩ := hZ
    have hi : i < qN m (tabOf X) p := (List.getElem?_eq_some_iff.1 ha).1
    have ea : leaN m (tabOf X) p i = a := by unfold leaN; rw [ha]; rfl
    have am : a < m := by rw [← ea]; exact lea_lt hi
    refine ⟨?_, fun x hx => ?_⟩
    · rw [← elsN_len, R.cos_len hp am, eL]
    · obtain ⟨y, rfl, hy, hc⟩ := lst_mem.1 hx
      exact ⟨y, rfl, hy, R.nam_of hp hi (by rw [ea]; exact hc)⟩
end
end Go.Proofs.YtajoimopahibcaaGreat

