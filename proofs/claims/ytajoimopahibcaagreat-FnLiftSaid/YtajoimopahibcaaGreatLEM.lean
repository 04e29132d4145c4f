
import Derived.Test.YtajoimopahibcaaGreatLEL
import Derived.Test.YtajoimopahibcaaGreatLEI
/- Plain facts: the ideals of the quotient are those above the ideal. No program in sight. -/
namespace Go.Proofs.YtajoimopahibcaaGreat
open Go.RowKit

/-- The elements whose classes lie in a set of classes. -/
noncomputable def preB (m : Nat) (S : Nat → Nat) (p i : Nat → Bool) : Nat → Bool := fun u => abvB m S p i u && decide (u < m)
section
variable {m e : Nat} {S P : Nat → Nat} {p i q : Nat → Bool}
theorem pre_at {u : Nat} (hu : u < m) : preB m S p i u = i (namK m S p m u) := by
  unfold preB abvB
  rw [decide_eq_true hu, Bool.and_true]
theorem pre_lt {u : Nat} (h : preB m S p i u = true) : u < m := by
  unfold preB at h
  rw [Bool.and_eq_true] at h
  exact of_decide_eq_true h.2
theorem RTab.look_s (R : RTab m S P e) (hp : Idl m S P p) {u v : Nat} (hu : u < m) (hv : v < m) : tabOf (numL (qN m S p * qN m S p) (quoF m S p S)) (namK m S p m u * qN m S p + namK m S p m v) = namK m S p m (S (u * m + v)) :=
  R.quo_look hp (T := S) (fun _ _ hu hv => R.quo_sum hp hu hv) hu hv
theorem RTab.look_p (R : RTab m S P e) (hp : Idl m S P p) {u v : Nat} (hu : u < m) (hv : v < m) : tabOf (numL (qN m S p * qN m S p) (quoF m S p P)) (namK m S p m u * qN m S p + namK m S p m v) = namK m S p m (P (u * m + v)) :=
  R.quo_look hp (T := P) (fun _ _ hu hv => R.quo_prd hp hu hv) hu hv
theorem RTab.pre_idl (R : RTab m S P e) (hp : Idl m S P p) (hi : Idl (qN m S p) (tabOf (numL (qN m S p * qN m S p) (quoF m S p S))) (tabOf (numL (qN m S p * qN m S p) (quoF m S p P))) i) : Idl m S P (preB m S p i) where
  lt := fun _ h => pre_lt h
  z := by rw [pre_at R.hm, R.nam_zero hp]; exact hi.z
  s := fun a b ha hb => by
    have am := pre_lt ha
    have bm := pre_lt hb
    rw [pre_at am] at ha
    rw [pre_at bm] at hb
    rw [pre_at (R.sc am bm), ← R.look_s hp am bm]
    exact hi.s _ _ ha hb
  t := fun a b ha hb => by
    have am := pre_lt ha
    rw [pre_at am] at ha
    rw [pre_at (R.pc am hb), ← R.look_p hp am hb]
    exact hi.t _ _ ha (R.nam_lt' hp hb)
theorem RTab.pre_sub (R : RTab m S P e) (hp : Idl m S P p) (h0 : i 0 = true) {u : Nat} (h : p u = true) : preB m S p i u = true := by
  rw [pre_at (hp.lt u h), (R.nam_zero_iff hp (hp.lt u h)).2 h]
  exact h0
theorem RTab.img_pre (R : RTab m S P e) (hp : Idl m S P p) (hlt : ∀ k, i k = true → k < qN m S p) : imgB m S p (preB m S p i) = i := bool_ext fun k => by
  rw [img_iff]
  constructor
  · rintro ⟨x, hx, h, rfl⟩
    rwa [pre_at hx] at h
  · intro h
    have hk := hlt k h
    exact ⟨leaN m S p k, lea_lt hk, by rw [pre_at (lea_lt hk), R.nam_lea hp hk]; exact h, R.nam_lea hp hk⟩
theorem RTab.pre_img (R : RTab m S P e) (hp : Idl m S P p) (hq : Idl m S P q) (h : ∀ u, p u = true → q u = true) : preB m S p (imgB m S p q) = q := bool_ext fun u => by
  constructor
  · intro hu
    have um := pre_lt hu
    rw [pre_at um] at hu
    have := (R.img_sum hp hq um).1 hu
    rwa [R.sum_in hp hq h] at this
  · intro hu
    have um := hq.lt u hu
    rw [pre_at um]
    refine (R.img_sum hp hq um).2 ?_
    rw [R.sum_in hp hq h]
    exact hu
theorem RTab.pre_whole (R : RTab m S P e) (hp : Idl m S P p) : wholeB m (preB m S p i) = wholeB (qN m S p) i := by
  rw [Bool.eq_iff_iff, whole_iff, whole_iff]
  constructor
  · intro h k hk
    have := h _ (lea_lt hk)
    rwa [pre_at (lea_lt hk), R.nam_lea hp hk] at this
  · intro h x hx
    rw [pre_at hx]
    exact h _ (R.nam_lt' hp hx)
theorem RTab.pre_prime (R : RTab m S P e) (hp : Idl m S P p) : primeB m P (preB m S p i) = primeB (qN m S p) (tabOf (numL (qN m S p * qN m S p) (quoF m S p P))) i := by
  rw [Bool.eq_iff_iff, prime_iff, prime_iff, R.pre_whole hp]
  refine and_congr_right fun _ => ?_
  constructor
  · intro h a b ha hb ia ib
    have h1 := h _ _ (lea_lt ha) (lea_lt hb) (by rw [pre_at (lea_lt ha), R.nam_lea hp ha]; exact ia) (by rw [pre_at (lea_lt hb), R.nam_lea hp hb]; exact ib)
    have h2 := R.look_p hp (lea_lt ha) (lea_lt hb)
    rw [R.nam_lea hp ha, R.nam_lea hp hb] at h2
    rwa [pre_at (R.pc (lea_lt ha) (lea_lt hb)), ← h2] at h1
  · intro h x y hx hy px py
    rw [pre_at hx] at px
    rw [pre_at hy] at py
    rw [pre_at (R.pc hx hy), ← R.look_p hp hx hy]
    exact h _ _ (R.nam_lt' hp hx) (R.nam_lt' hp hy) px py
theorem RTab.pre_len (R : RTab m S P e) (hp : Idl m S P p) (_hlt : ∀ k, i k = true → k < qN m S p) : (lstP m (preB m S p i)).length = (lstP (qN m S p) i).length * (lstP m p).length := by
  have h := fibersN (c := (lstP m p).length) (namK m S p m) (finN (selTo (qN m S p) i (qN m S p))) (finN (selTo m (preB m S p i) m)) elsN_nodup (fun x hx => by
    obtain ⟨hx1, hx2⟩ := lst_in.1 hx
    rw [pre_at hx1] at hx2
    exact lst_in.2 ⟨R.nam_lt' hp hx1, hx2⟩) fun k hk => by
    obtain ⟨hk', hik⟩ := lst_in.1 hk
    rw [← R.cos_len hp (lea_lt hk')]
    refine ((List.perm_ext_iff_of_nodup (elsN_nodup.filter _) elsN_nodup).2 fun x => ?_).length_eq
    rw [List.mem_filter, lst_in, lst_in, decide_eq_true_iff, and_assoc]
    refine and_congr_right fun hx => ?_
    constructor
    · rintro ⟨_, h⟩
      exact R.cos_nam hp (lea_lt hk') hx (by rw [R.nam_lea hp hk', h])
    · intro h
      have hn := R.nam_of hp hk' h
      exact ⟨by rw [pre_at hx, hn]; exact hik, hn⟩
  rw [elsN_len, elsN_len] at h
  rw [h, Nat.mul_comm]
end
section
variable {m e : Nat} {X Y L K : List Int} {p : Nat → Bool}
/-- There are as many ideals above as the quotient has. -/
theorem above_count (hv : validB m e X Y = true) (hm' : m ≤ 16) (hp : Idl m (tabOf X) (tabOf Y) p) {c e' : Nat} {QX QY : List Int} (hc : qN m (tabOf X) p = c) (he' : namK m (tabOf X) p m e = e') (hX : numL (c * c) (quoF m (tabOf X) p (tabOf X)) = QX) (hY : numL (c * c) (quoF m (tabOf X) p (tabOf Y)) = QY) :
    abvC m e X Y (lstP m p) (alsL m e X Y) = (alsL c e' QX QY).length := by
  have R := rtab_of_valid hv
  have qv := R.quo_valid hm' hp
  have hidl := fun {q : Nat → Bool} (hq : Idl m (tabOf X) (tabOf Y) q) => R.img_idl hp hq
  have hpre := fun {i : Nat → Bool} => R.pre_idl hp (i := i)
  have himg := fun {i : Nat → Bool} => R.img_pre hp (i := i)
  rw [hc, hX, hY] at hidl hpre
  rw [hc] at himg
  rw [hc, he', hX, hY] at qv
  have hcm : c ≤ 16 := by rw [← hc]; exact Nat.le_trans cnt_le hm'
  unfold abvC
  have hperm : (((alsL m e X Y).filter fun Z => abvI m e X Y (lstP m p) Z).map fun Z => lstP c (imgB m (tabOf X) p (setL Z))).Perm (alsL c e' QX QY) := by
    refine (List.perm_ext_iff_of_nodup ?_ (als_nodup qv hcm)).2 fun l => ?_
    · unfold List.Nodup
      rw [List.pairwise_map]
      have h0 : ((alsL m e X Y).filter fun Z => abvI m e X Y (lstP m p) Z).Pairwise (· ≠ ·) := (als_nodup hv hm').filter _
      refine List.Pairwise.imp_of_mem ?_ h0
      intro Z Z' hZ hZ' hne e1
      rw [List.mem_filter, als_mem hv hm'] at hZ hZ'
      obtain ⟨⟨q, hq, rfl⟩, h2⟩ := hZ
      obtain ⟨⟨q', hq', rfl⟩, h2'⟩ := hZ'
      rw [setL_lst hq.lt, setL_lst hq'.lt] at e1
      have e2 := lst_uniq (hidl hq).lt (hidl hq').lt e1
      refine hne ?_
      rw [← R.pre_img hp hq ((abv_iff hv hp hq).1 h2), ← R.pre_img hp hq' ((abv_iff hv hp hq').1 h2'), e2]
    · rw [List.mem_map, als_mem qv hcm]
      constructor
      · rintro ⟨Z, hZ, rfl⟩
        rw [List.mem_filter, als_mem hv hm'] at hZ
        obtain ⟨⟨q, hq, rfl⟩, _⟩ := hZ
        exact ⟨_, hidl hq, by rw [setL_lst hq.lt]⟩
      · rintro ⟨i, hi, rfl⟩
        have hq := hpre hi
        refine ⟨lstP m (preB m (tabOf X) p i), ?_, ?_⟩
        · rw [List.mem_filter, als_mem hv hm']
          exact ⟨⟨_, hq, rfl⟩, (abv_iff hv hp hq).2 fun u hu => R.pre_sub hp hi.z hu⟩
        · show lstP c (imgB m (tabOf X) p (setL (lstP m (preB m (tabOf X) p i)))) = lstP c i
          rw [setL_lst hq.lt, himg hi.lt]
  rw [← hperm.length_eq, List.length_map]
/-- What FnLift wants. -/
theorem lift_law (h : lftB m e X Y L K = true) (hm' : m ≤ 16) : ∃ (c e' : Nat) (QX QY : List Int), quN m e X Y L = (c : Int) ∧ quO m e X Y L = (e' : Int) ∧ quS m e X Y L = QX ∧ quP m e X Y L = QY ∧ isIdB m e X Y L = true ∧ isIdB c e' QX QY K = true ∧
    isIdB m e X Y (lftL m e X Y L K) = true ∧ pshL m e X Y L (lftL m e X Y L K) = K ∧ sumL m e X Y (lftL m e X Y L K) L = lftL m e X Y L K ∧ (lftL m e X Y L K).length = K.length * L.length ∧ abvC m e X Y L (alsL m e X Y) = (alsL c e' QX QY).length ∧
    priB m e X Y (lftL m e X Y L K) = priB c e' QX QY K ∧ ∀ Z, Z ∈ alsL m e X Y → eqL (sumL m e X Y Z L) Z = abvI m e X Y L Z := by
  have hb : isIdB m e X Y L = true ∧ quB m e X Y L K = true := by
    unfold lftB at h
    rwa [Bool.and_eq_true] at h
  obtain ⟨h1, h2⟩ := hb
  obtain ⟨hv, hp, eL⟩ := isId_data h1
  have R := rtab_of_valid hv
  obtain ⟨p, ep⟩ : ∃ p, setL L = p := ⟨_, rfl⟩
  have hl := lft_yes h
  unfold quB at h2
  rw [Int.toNat_natCast, Int.toNat_natCast, ep] at h2
  rw [Int.toNat_natCast, ep] at hl
  obtain ⟨a1, a2, a3, a4⟩ := quN_at h1 ep
  rw [ep] at hp eL
  obtain ⟨_, hi, eK⟩ := isId_data h2
  obtain ⟨i, hiK⟩ : ∃ i, setL K = i := ⟨_, rfl⟩
  rw [hiK] at hl hi eK
  have hq : Idl m (tabOf X) (tabOf Y) (preB m (tabOf X) p i) := R.pre_idl hp hi
  have hl' : lftL m e X Y L K = lstP m (preB m (tabOf X) p i) := hl
  have hid : isIdB m e X Y (lstP m (preB m (tabOf X) p i)) = true := isId_of hv hq
  refine ⟨qN m (tabOf X) p, namK m (tabOf X) p m e, _, _, a1, a2, a3, a4, h1, h2, ?_, ?_, ?_, ?_, ?_, ?_, ?_⟩
  · rw [hl']; exact hid
  · have ht : twoI m e X Y L (lstP m (preB m (tabOf X) p i)) = true := by unfold twoI; rw [h1, hid]; rfl
    rw [hl', psh_yes ht, Int.toNat_natCast, ep, setL_lst hq.lt, R.img_pre hp hi.lt]
    exact eK.symm
  · rw [hl', eL, sum_at hv hq hp, R.sum_comm hq.lt hp.lt, R.sum_in hp hq fun u hu => R.pre_sub hp hi.z hu]
  · rw [hl', R.pre_len hp hi.lt, ← eL, ← eK]
  · rw [eL]
    exact above_count hv hm' hp rfl rfl rfl rfl
  · unfold priB
    rw [hl', hid, h2, Bool.true_and, Bool.true_and, Int.toNat_natCast, Int.toNat_natCast, setL_lst hq.lt, hiK]
    exact R.pre_prime hp
  · intro Z hZ
    obtain ⟨q, hqi, rfl⟩ := (als_mem hv hm' Z).1 hZ
    unfold abvI
    rw [eL, sum_at hv hqi hp, sum_at hv hp hqi, R.sum_comm hqi.lt hp.lt]
end
end Go.Proofs.YtajoimopahibcaaGreat

