
/- The contracts of Neg, Times, Power and CharacteristicOf, of both sides. -/
import Derived.Test.YtocoegekdamlbaaB6
namespace Go.Proofs.Ytocoegekdamlbaa
open Go.RowKit

noncomputable def ifV (c : Prop) (v : Int) : Int := @ite _ c (Classical.propDecidable c) v (-1)
theorem ifV_yes {c : Prop} {v : Int} (h : c) : ifV c v = v := @if_pos c (Classical.propDecidable c) h _ _ _
theorem ifV_no {c : Prop} {v : Int} (h : ¬ c) : ifV c v = -1 := @if_neg c (Classical.propDecidable c) h _ _ _

noncomputable def negV (n o : Int) (X Y : List Int) (a : Int) : Int := ifV (validB n o X Y = true ∧ inB n a = true) (negN n.toNat (tabOf X) a.toNat)
theorem negV_no {n o a : Int} {X Y : List Int} (h : ¬ (validB n o X Y = true ∧ inB n a = true)) : negV n o X Y a = -1 := ifV_no h
theorem negV_yes {m e a : Nat} {X Y : List Int} (h : validB m e X Y = true) (ha : inB m a = true) : negV m e X Y a = negN m (tabOf X) a := ifV_yes ⟨h, ha⟩
noncomputable def timesV (n o : Int) (X Y : List Int) (k a : Int) : Int := ifV (validB n o X Y = true ∧ inB n a = true) (seqT n.toNat (tabOf X) a.toNat (cntN k (ordN n.toNat (tabOf X) a.toNat)) : Nat)
theorem timesV_no {n o k a : Int} {X Y : List Int} (h : ¬ (validB n o X Y = true ∧ inB n a = true)) : timesV n o X Y k a = -1 := ifV_no h
theorem timesV_yes {m e a : Nat} {k : Int} {X Y : List Int} (h : validB m e X Y = true) (ha : inB m a = true) : timesV m e X Y k a = (seqT m (tabOf X) a (cntN k (ordN m (tabOf X) a)) : Nat) := ifV_yes ⟨h, ha⟩
noncomputable def powV (n o : Int) (X Y : List Int) (a k : Int) : Int := ifV (validB n o X Y = true ∧ inB n a = true ∧ 0 ≤ k) (powF n.toNat (tabOf Y) 63 o.toNat a.toNat k.toNat : Nat)
theorem powV_no {n o a k : Int} {X Y : List Int} (h : ¬ (validB n o X Y = true ∧ inB n a = true ∧ 0 ≤ k)) : powV n o X Y a k = -1 := ifV_no h
theorem powV_yes {m e a k : Nat} {X Y : List Int} (h : validB m e X Y = true) (ha : inB m a = true) (_ : (0 : Int) ≤ k) : powV m e X Y a k = (powF m (tabOf Y) 63 e a k : Nat) := ifV_yes ⟨h, ha, by omega⟩
noncomputable def charV (n o : Int) (X Y : List Int) : Int := ifV (validB n o X Y = true) (ordN n.toNat (tabOf X) o.toNat : Nat)
theorem charV_no {n o : Int} {X Y : List Int} (h : ¬ validB n o X Y = true) : charV n o X Y = -1 := ifV_no h
theorem charV_yes {m e : Nat} {X Y : List Int} (h : validB m e X Y = true) : charV m e X Y = (ordN m (tabOf X) e : Nat) := ifV_yes h

end Go.Proofs.Ytocoegekdamlbaa
