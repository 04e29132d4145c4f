/- Texts of this seat in one: Y5. -/
import Derived.Test.YtajoimopahibcaaGreatMH
import Derived.Test.YtajoimopahibcaaGreatMG
import Derived.Test.YtajoimopahibcaaGreatMP

/- Drawn laws: contracts of stage 3's functions over a ring that lies in a world. -/
namespace Go.Proofs.YtajoimopahibcaaGreat
open Go.RowKit
set_option maxRecDepth 100000
section
variable {n o : Int} {A B : Option Addr} {la ca lb cb : Nat} {X Y : List Int} {w : World}
theorem c_field (h : RIn w A la ca B lb cb X Y) (z : Bool) (hz : fieldV n o X Y = z) : Calls Tryz.prog 32 #[.agg #[.int .i64 n, .int .i64 o, .slice A la ca, .slice B lb cb]] w fun e' w' => e' = .returned (.bool z) ∧ Below w.heap.size w w' := by
  subst hz
  exact isField_any n o A B la ca lb cb X Y  w h.hX h.hY h.hla h.hlb h.hca h.hcb
end

section
variable {m e : Nat} {X Y : List Int}
end

end Go.Proofs.YtajoimopahibcaaGreat

