
import Derived.Test.YtajoimopahibcaaLEJ
import Derived.Test.YtajoimopahibcaaMT
/- What FnPush wants: pushed ideals and the quotient of the quotient, as lists. -/
namespace Go.Proofs.Ytajoimopahibcaa
open Go.RowKit

theorem numL_congr {c : Nat} {f g : Nat → Nat} (h : ∀ k, k < c → f k = g k) : numL c f = numL c g := by
  unfold numL
  refine List.map_congr_left fun k hk => ?_
  rw [h k (List.mem_range.1 hk)]
section
variable {m e : Nat} {X Y L K : List Int} {p : Nat → Bool}
theorem quN_at (h : isIdB m e X Y L = true) (hp : setL L = p) : quN m e X Y L = ((qN m (tabOf X) p : Nat) : Int) ∧ quO m e X Y L = ((namK m (tabOf X) p m e : Nat) : Int) ∧
    quS m e X Y L = numL (qN m (tabOf X) p * qN m (tabOf X) p) (quoF m (tabOf X) p (tabOf X)) ∧ quP m e X Y L = numL (qN m (tabOf X) p * qN m (tabOf X) p) (quoF m (tabOf X) p (tabOf Y)) := by
  unfold quN quO quS quP
  rw [if_pos h, if_pos h, if_pos h, if_pos h, Int.toNat_natCast, Int.toNat_natCast, hp]
  exact ⟨rfl, rfl, rfl, rfl⟩
/-- What FnPush wants. -/
theorem push_law (h : twoI m e X Y L K = true) (hm' : m ≤ 16) : isIdB (quN m e X Y L) (quO m e X Y L) (quS m e X Y L) (quP m e X Y L) (pshL m e X Y L K) = true ∧ lftB m e X Y L (pshL m e X Y L K) = true ∧ lftL m e X Y L (pshL m e X Y L K) = sumL m e X Y L K ∧
    quN (quN m e X Y L) (quO m e X Y L) (quS m e X Y L) (quP m e X Y L) (pshL m e X Y L K) = quN m e X Y (sumL m e X Y L K) ∧
    quO (quN m e X Y L) (quO m e X Y L) (quS m e X Y L) (quP m e X Y L) (pshL m e X Y L K) = quO m e X Y (sumL m e X Y L K) ∧
    quS (quN m e X Y L) (quO m e X Y L) (quS m e X Y L) (quP m e X Y L) (pshL m e X Y L K) = quS m e X Y (sumL m e X Y L K) ∧
    quP (quN m e X Y L) (quO m e X Y L) (quS m e X Y L) (quP m e X Y L) (pshL m e X Y L K) = quP m e X Y (sumL m e X Y L K) := by
  obtain ⟨h1, h2⟩ := two_data h
  obtain ⟨hv, hp, eL⟩ := isId_data h1
  obtain ⟨_, hq, eK⟩ := isId_data h2
  have R := rtab_of_valid hv
  obtain ⟨p, ep⟩ : ∃ p, setL L = p := ⟨_, rfl⟩
  obtain ⟨q, eq⟩ : ∃ p, setL K = p := ⟨_, rfl⟩
  obtain ⟨a1, a2, a3, a4⟩ := quN_at h1 ep
  have hpsh := psh_yes h
  rw [Int.toNat_natCast, ep, eq] at hpsh
  have hlift : lftB m e X Y L (pshL m e X Y L K) = true → lftL m e X Y L (pshL m e X Y L K) = lstP m (fun i => abvB m (tabOf X) p (setL (pshL m e X Y L K)) i && decide (i < m)) := fun hb => by
    rw [lft_yes hb, Int.toNat_natCast, ep]
  have hlb : lftB m e X Y L (pshL m e X Y L K) = isIdB (qN m (tabOf X) p : Int) (namK m (tabOf X) p m e : Int) (numL (qN m (tabOf X) p * qN m (tabOf X) p) (quoF m (tabOf X) p (tabOf X))) (numL (qN m (tabOf X) p * qN m (tabOf X) p) (quoF m (tabOf X) p (tabOf Y))) (pshL m e X Y L K) := by
    unfold lftB quB
    rw [h1, Int.toNat_natCast, Int.toNat_natCast, ep, Bool.true_and]
  rw [ep] at hp eL
  rw [eq] at hq eK
  obtain ⟨c, hc⟩ : ∃ c, qN m (tabOf X) p = c := ⟨_, rfl⟩
  obtain ⟨e', he'⟩ : ∃ c, namK m (tabOf X) p m e = c := ⟨_, rfl⟩
  obtain ⟨QX, hQX⟩ : ∃ Z, numL (c * c) (quoF m (tabOf X) p (tabOf X)) = Z := ⟨_, rfl⟩
  obtain ⟨QY, hQY⟩ : ∃ Z, numL (c * c) (quoF m (tabOf X) p (tabOf Y)) = Z := ⟨_, rfl⟩
  obtain ⟨i, hi⟩ : ∃ i, imgB m (tabOf X) p q = i := ⟨_, rfl⟩
  obtain ⟨s, hs⟩ : ∃ s, opsB m (tabOf X) p q = s := ⟨_, rfl⟩
  have hqv := R.quo_valid hm' hp
  have hiI := R.img_idl hp hq
  have hsI := R.sum_idl hp hq
  have hsum := sum_at hv hp hq
  have himg := fun {u : Nat} (hu : u < m) => R.img_sum hp hq hu
  rw [hc, he', hQX, hQY] at hqv
  rw [hc, hQX, hQY, hi] at hiI
  rw [hs] at hsI hsum
  rw [hc, hi] at hpsh
  rw [hc] at a1
  rw [he'] at a2
  rw [hc, hQX] at a3
  rw [hc, hQY] at a4
  rw [hc, he', hQX, hQY] at hlb
  rw [hi, hs] at himg
  obtain ⟨A, hA⟩ : ∃ A, pshL m e X Y L K = A := ⟨_, rfl⟩
  rw [hA] at hpsh hlift hlb ⊢
  have hid : isIdB (c : Int) (e' : Int) QX QY A = true := by rw [hpsh]; exact isId_of hqv hiI
  have hsA : setL A = i := by rw [hpsh]; exact setL_lst hiI.lt
  have hS : sumL m e X Y L K = lstP m s := by rw [eL, eK]; exact hsum
  have hids : isIdB m e X Y (lstP m s) = true := isId_of hv hsI
  rw [hid] at hlb
  rw [a1, a2, a3, a4, hS]
  obtain ⟨b1, b2, b3, b4⟩ := quN_at hid hsA
  obtain ⟨d1, d2, d3, d4⟩ := quN_at hids (setL_lst hsI.lt)
  obtain ⟨q1, q2, q3, q4⟩ := R.quo_quo hm' hp hq hc (QS := tabOf QX) (QP := tabOf QY) (by rw [hQX]) (by rw [hQY]) hi hs
  rw [he'] at q2
  refine ⟨hid, hlb, ?_, by rw [b1, d1, q1], by rw [b2, d2, q2], ?_, ?_⟩
  · rw [hlift hlb, hsA]
    refine lst_congr fun u hu => ?_
    unfold abvB
    rw [decide_eq_true hu, Bool.and_true, Bool.eq_iff_iff]
    exact himg hu
  · rw [b3, d3, ← q1]
    exact numL_congr fun k hk => q3 k hk
  · rw [b4, d4, ← q1]
    exact numL_congr fun k hk => q4 k hk
end
end Go.Proofs.Ytajoimopahibcaa

