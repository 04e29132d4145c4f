/- Texts of this seat in one: PE. -/
import Derived.Test.YtlcpbdbdiahmjaaMC
import Derived.Test.YtlcpbdbdiahmjaaMG

/- An append to a row of the call's own inside a region that draws its order. -/
namespace Go.Proofs.Ytlcpbdbdiahmjaa
open Go.RowKit Go.Shelf
set_option maxRecDepth 100000

def numL (k : Nat) (f : Nat → Nat) : List Int := (List.range k).map fun j => (f j : Int)
def numV (k : Nat) (f : Nat → Nat) : List Value := (numL k f).map (.int .i64)
section
variable {k : Nat} {f : Nat → Nat}
end
def OwnK (D k : Nat) (f : Nat → Nat) (v : Value) (w : World) : Prop := w.ownsRow D 3 1 v k (numV k f)
/-! ### what the region asks of its makers -/
def ApR (row : Option Nat) (D k : Nat) (f : Nat → Nat) (w w' : World) : Prop := w.grownBy w' row ∧ (∀ v, OwnK D (k + 1) f v w → OwnK D (k + 1) f v w') ∧ ∀ v, OwnK D k f v w → OwnK D k f v w'
section
variable {row : Option Nat} {D k : Nat} {f : Nat → Nat}
theorem grownBy_refl (w : World) : w.grownBy w row := ⟨rfl, rfl, rfl, Nat.le_refl _, fun _ _ _ => rfl⟩
theorem grownBy_trans {a b c : World} (h : a.grownBy b row) (h' : b.grownBy c row) : a.grownBy c row :=
  ⟨h'.os.trans h.os, h'.tape.trans h.tape, h'.output.trans h.output, Nat.le_trans h.size h'.size, fun j hj hr => (h'.block j (Nat.lt_of_lt_of_le hj h.size) hr).trans (h.block j hj hr)⟩
theorem grownBy_below {a b : World} (h : Below a.heap.size a b) : a.grownBy b row := ⟨h.os, h.tape, h.output, h.size, fun j hj _ => h.block j hj⟩
theorem ApR.refl (w : World) : ApR row D k f w w := ⟨grownBy_refl w, fun _ h => h, fun _ h => h⟩
theorem ApR.trans (a b c : World) (h : ApR row D k f a b) (h' : ApR row D k f b c) : ApR row D k f a c := ⟨grownBy_trans h.1 h'.1, fun v hv => h'.2.1 v (h.2.1 v hv), fun v hv => h'.2.2 v (h.2.2 v hv)⟩
theorem ApR.of_below {w w' : World} (hb : Below w.heap.size w w') : ApR row D k f w w' := ⟨grownBy_below hb, fun _ h => own_nextK h hb, fun _ h => own_nextK h hb⟩
theorem ApR.drew (w : World) : ApR row D k f w w.drew := ApR.of_below (Below.refl _ _).drew
end
section
variable {row : Option Nat} {D D0 k c : Nat} {f : Nat → Nat}
end
end Go.Proofs.Ytlcpbdbdiahmjaa

