
import Derived.Test.YtajoimopahibcaaGreatLEE
/- Plain facts: sums, meets, products and quotients of two ideals. No program in sight. -/
namespace Go.Proofs.YtajoimopahibcaaGreat
open Go.RowKit

section
variable {m e : Nat} {S P : Nat → Nat} {p q r : Nat → Bool}
theorem RTab.sum_comm (R : RTab m S P e) (hp : ∀ i, p i = true → i < m) (hq : ∀ i, q i = true → i < m) : opsB m S p q = opsB m S q p := bool_ext fun i => by
  rw [opsB_iff, opsB_iff]
  constructor
  · rintro ⟨a, b, ha, hb, rfl⟩
    exact ⟨b, a, hb, ha, R.Acs (hq b hb) (hp a ha)⟩
  · rintro ⟨a, b, ha, hb, rfl⟩
    exact ⟨b, a, hb, ha, R.Acs (hp b hb) (hq a ha)⟩
/-- A sum with a part of an ideal is the ideal. -/
theorem RTab.sum_in (R : RTab m S P e) (hp : Idl m S P p) (hq : Idl m S P q) (h : ∀ i, p i = true → q i = true) : opsB m S p q = q :=
  bool_ext fun _ => ⟨fun hi => sum_le hq h (fun _ h => h) hi, fun hi => R.sum_right hp hq hi⟩
end

section
variable {m e : Nat} {X Y L K : List Int} {p q : Nat → Bool}
theorem sum_at (hv : validB m e X Y = true) (hp : Idl m (tabOf X) (tabOf Y) p) (hq : Idl m (tabOf X) (tabOf Y) q) : sumL m e X Y (lstP m p) (lstP m q) = lstP m (opsB m (tabOf X) p q) := by
  unfold sumL
  rw [fromL_yes (two_yes (isId_of hv hp) (isId_of hv hq)), setL_lst hp.lt, setL_lst hq.lt, Int.toNat_natCast]
end
end Go.Proofs.YtajoimopahibcaaGreat

