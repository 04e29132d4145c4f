/- Texts of this seat in one: PH PI PJ PK PL PM PN PQ. -/
import Derived.Test.YtajoimopahibcaaGreatMQ
import Derived.Maps.OwnSet
import Derived.Test.YtajoimopahibcaaGreatMN
import Derived.Test.YtajoimopahibcaaGreatMO
import Derived.Test.YtajoimopahibcaaGreatMJ

/- An append of one element of several cells, inside a region that draws its order. -/
namespace Go.Proofs.YtajoimopahibcaaGreat
open Go.RowKit Go.Shelf
set_option maxRecDepth 100000

section
variable {D size bytes n b : Nat} {e t ty : TypeId} {i0 : TypeInfo} {z : Value} {v : Value} {x : World} {xs news : List Value}
end

/-! ### what a region asks of such an append: a slice of one element (maker a) and the append (maker b) -/
def GpR (row : Option Nat) (D : Nat) (e : TypeId) (size n : Nat) (xs news : List Value) (w w' : World) : Prop :=
  w.grownBy w' row ∧ (∀ u, w.ownsRow D e size u (n + 1) (xs ++ news) → w'.ownsRow D e size u (n + 1) (xs ++ news)) ∧ ∀ u, w.ownsRow D e size u n xs → w'.ownsRow D e size u n xs
section
variable {row : Option Nat} {D D0 size n : Nat} {e : TypeId} {xs news : List Value} {ia ib : Nat}
theorem GpR.refl (w : World) : GpR row D e size n xs news w w := ⟨grownBy_refl w, fun _ h => h, fun _ h => h⟩
theorem GpR.trans (a b c : World) (h : GpR row D e size n xs news a b) (h' : GpR row D e size n xs news b c) : GpR row D e size n xs news a c := ⟨grownBy_trans h.1 h'.1, fun v hv => h'.2.1 v (h.2.1 v hv), fun v hv => h'.2.2 v (h.2.2 v hv)⟩
theorem GpR.of_below {w w' : World} (hb : Below w.heap.size w w') : GpR row D e size n xs news w w' := ⟨grownBy_below hb, fun _ h => own_nextK h hb, fun _ h => own_nextK h hb⟩
theorem GpR.drew (w : World) : GpR row D e size n xs news w w.drew := GpR.of_below (Below.refl _ _).drew
end
instance (row : Option Nat) (D : Nat) (e : TypeId) (size n : Nat) (xs news : List Value) (V : World) : Nonempty (ExtR (GpR row D e size n xs news) V) := ⟨⟨V, GpR.refl V⟩⟩

end Go.Proofs.YtajoimopahibcaaGreat



/- A map from elements to classes: what it holds, element by element. -/
namespace Go.Proofs.YtajoimopahibcaaGreat
open Go.RowKit Go.Shelf
set_option maxRecDepth 100000

def clsD (a b : Int) : DataW Unit := .agg [.lit (.int .i64 a), .lit (.int .i64 b)]
/-- How a class in a map reads. -/
def clsE (v : Value) : Option (DataW Unit × List MemPlace) := match v with
  | .agg cs => match cs.toList with
    | [.int .i64 a, .int .i64 b] => some (clsD a b, [])
    | _ => none
  | _ => none
theorem clsE_mk (a b : Int) : clsE (.agg #[.int .i64 a, .int .i64 b]) = some (clsD a b, []) := rfl
theorem law_cls : Go.Maps.Keyed Tryz.prog 3 := Go.Maps.int_keyed Tryz.underlying3
theorem wf_nat {x : Nat} (h : x ≤ 1000000) : (Lit.int .i64 (x : Int)).wf = true := WalkArith.wf_i64 (by omega)
theorem key_nat {x : Nat} (h : x ≤ 1000000) : keyOf Tryz.prog 3 (.int .i64 (x : Int)) = some (.int .i64 (x : Int)) := Go.Maps.keyOf_int_mk Tryz.underlying3 (wf_nat h)
theorem lit_nat {x : Nat} (h : x ≤ 1000000) : WideAt.IsKeyLit (.int .i64 (x : Int)) := law_cls.key (key_nat h)

/-- Block b is a map of at most k entries that holds these classes. -/
def MapC (k : Nat) (w : World) (b : Nat) (f : Nat → Option (Nat × Nat)) : Prop :=
  ∃ n D, n ≤ k ∧ w.ownsMap Tryz.prog 3 clsE b n D ∧ ∀ x : Nat, x ≤ 1000000 → (f x = none → Maps.has D (.int .i64 (x : Int)) = false) ∧ ∀ i l, f x = some (i, l) → Maps.has D (.int .i64 (x : Int)) = true ∧ ∀ z, D.atKey (.int .i64 (x : Int)) z = clsD i l
section
variable {k b : Nat} {w w' : World} {f : Nat → Option (Nat × Nat)}
theorem MapC.lt (h : MapC k w b f) : b < w.heap.size := by obtain ⟨n, D, _, h1, _⟩ := h; exact h1.lt
theorem MapC.kept {row : Option Nat} (h : MapC k w b f) (hg : w.grownBy w' row) (hne : some b ≠ row) : MapC k w' b f := by
  obtain ⟨n, D, h0, h1, h2⟩ := h
  exact ⟨n, D, h0, h1.kept hg hne, h2⟩
theorem MapC.next (h : MapC k w b f) (hb : Below w.heap.size w w') : MapC k w' b f := h.kept (row := none) (grownBy_below hb) (by simp)
theorem MapC.heap (h : MapC k w b f) (hh : w'.heap[b]? = w.heap[b]?) : MapC k w' b f := by
  obtain ⟨n, D, h0, ⟨es, clock, hb, rest⟩, h2⟩ := h
  exact ⟨n, D, h0, ⟨es, clock, hh.trans hb, rest⟩, h2⟩
theorem MapC.ne_blk {t : TypeId} {cs : Array Value} (h : MapC k w b f) (hb : Blk w b t cs) : False := by
  obtain ⟨n, D, _, ⟨es, clock, h1, _⟩, _⟩ := h
  unfold Blk at hb
  rw [h1] at hb
  cases hb
theorem MapC.ne_row {D n size : Nat} {e : TypeId} {v : Value} {xs : List Value} (h : MapC k w b f) (hv : w.ownsRow D e size v n xs) (he : some b = v.ownBlock) : False := by
  rcases hv.2 with ⟨rfl, _⟩ | ⟨g, cap, cur, rfl, _, hh, _⟩
  · cases he
  · simp only [Value.ownBlock, Option.some.injEq] at he
    subst he
    exact h.ne_blk (t := e) (cs := cur) hh
theorem MapC.congr {g : Nat → Option (Nat × Nat)} (h : MapC k w b f) (hfg : ∀ x, x ≤ 1000000 → f x = g x) : MapC k w b g := by
  obtain ⟨n, D, h0, h1, h2⟩ := h
  exact ⟨n, D, h0, h1, fun x hx => by rw [← hfg x hx]; exact h2 x hx⟩
theorem MapC.more (h : MapC k w b f) {k' : Nat} (hk : k ≤ k') : MapC k' w b f := by
  obtain ⟨n, D, h0, h1⟩ := h
  exact ⟨n, D, Nat.le_trans h0 hk, h1⟩
theorem MapC.made (w : World) : MapC 0 (w.alloc (.map #[] 0)) w.heap.size (fun _ => none) :=
  ⟨0, .map [], Nat.le_refl _, World.ownsMap_made _ _ _ _, fun _ _ => ⟨fun _ => rfl, fun _ _ h => by cases h⟩⟩
theorem MapC.put (h : MapC k w b f) {x i l : Nat} (hx : x ≤ 1000000) (hk : k ≤ 1000000) : ∃ w', (Instr.mapUpdate 80 (.map (some b)) (.int .i64 (x : Int)) (.agg #[.int .i64 (i : Int), .int .i64 (l : Int)])).run Tryz.prog w = .ok () w' ∧ MapC (k + 1) w' b (fun y => if y = x then some (i, l) else f y) ∧ w.grownBy w' (some b) := by
  obtain ⟨n, D, h0, h1, h2⟩ := h
  obtain ⟨w', hr, h3, h4⟩ := h1.update law_cls Tryz.underlying80 (by unfold maxLen; omega) (key_nat hx) (clsE_mk i l)
  refine ⟨w', hr, ⟨n + 1, _, by omega, h3, fun y hy => ?_⟩, h4⟩
  by_cases hyx : y = x
  · subst hyx
    have e0 : (fun z => if z = y then some (i, l) else f z) y = some (i, l) := if_pos rfl
    refine ⟨fun h => (by rw [e0] at h; cases h), fun i' l' h => ?_⟩
    rw [e0] at h
    simp only [Option.some.injEq, Prod.mk.injEq] at h
    obtain ⟨rfl, rfl⟩ := h
    exact ⟨Go.Maps.has_put_same h1.isMap (lit_nat hx) _, fun z => Go.Maps.atKey_put_same h1.isMap (lit_nat hx) _ z⟩
  · have hne : Lit.int .i64 (y : Int) ≠ Lit.int .i64 (x : Int) := fun e => by
      simp only [Lit.int.injEq, true_and] at e
      omega
    have e0 : (fun z => if z = x then some (i, l) else f z) y = f y := if_neg hyx
    rw [e0]
    refine ⟨fun h => ?_, fun i' l' h => ?_⟩
    · rw [Go.Maps.has_put_other hne]; exact (h2 y hy).1 h
    · obtain ⟨h5, h6⟩ := (h2 y hy).2 i' l' h
      exact ⟨by rw [Go.Maps.has_put_other hne]; exact h5, fun z => by rw [Go.Maps.atKey_put_other hne]; exact h6 z⟩
end

end Go.Proofs.YtajoimopahibcaaGreat



/- addClass of the program: one more class. -/
namespace Go.Proofs.YtajoimopahibcaaGreat
open Go.RowKit Go.Shelf
set_option maxRecDepth 100000
attribute [local go_sem] Oper.semAt_some

/-- The classes as a row of their cells. -/
def clsV (l : List Nat) : List Value := (List.range l.length).flatMap fun (i : Nat) => [.int .i64 (i : Int), .int .i64 (l.getD i 0 : Int)]
/-- The cells of a quotient's box. -/
def quoC (m e b1 o1 la ca b2 o2 lb cb : Nat) (vC : Value) (bm : Nat) : Array Value := #[.int .i64 m, .int .i64 e, .slice (some ⟨b1, o1, none⟩) la ca, .slice (some ⟨b2, o2, none⟩) lb cb, vC, .map (some bm)]

theorem wpList_update_run {P : Program} (w w' : World) {ops : Array Oper} {rest : List Oper} {o : Oper} {a : Act} {Q : Exit → Act → World → Prop}
    (hg : o.guard = none) (m x v : Operand) (t : TypeId) (hop : o.op = Op.mapUpdate t m x v) (mv kv vv : Value) (hm : a.eval m = mv) (hx : a.eval x = kv) (hv : a.eval v = vv) (hrun : (Instr.mapUpdate t mv kv vv).run P w = .ok () w')
    (h : wpList P ops Q rest (a.put o.dst undef) w') : wpList P ops Q (o :: rest) a w := by
  refine wpList_plain hg fun K' hK' => ?_
  unfold Oper.wp
  simp [execOp, hop, hm, hx, hv, hrun, Result.andThen]
  exact hK' _ _ h

end Go.Proofs.YtajoimopahibcaaGreat



/- quotientOf of the program: all classes by an ideal. -/
namespace Go.Proofs.YtajoimopahibcaaGreat
open Go.RowKit Go.Shelf
set_option maxRecDepth 100000

/-- The class of an element, among those of the elements below k. -/
noncomputable def fmC (m : Nat) (S : Nat → Nat) (p : Nat → Bool) (k x : Nat) : Option (Nat × Nat) := if donB m S p k x = true then some (namK m S p k x, ((leas m S p k)[namK m S p k x]?).getD 0) else none
section
variable {m e k : Nat} {S P : Nat → Nat} {p : Nat → Bool}
end

/-- What a quotient holds. -/
def QSt (m e b1 o1 la ca b2 o2 lb cb : Nat) (S : Nat → Nat) (p : Nat → Bool) (D : Nat) (w : World) (mv : Value) : Prop :=
  ∃ vC bm, mv = .agg (quoC m e b1 o1 la ca b2 o2 lb cb vC bm) ∧ w.ownsRow D 89 2 vC (leas m S p m).length (clsV (leas m S p m)) ∧ MapC 300 w bm (fmC m S p m) ∧ D ≤ bm

section
variable {w : World} {b : Nat} {v0 v1 v2 v3 v4 v5 : Value}
end

end Go.Proofs.YtajoimopahibcaaGreat



/- The methods of a quotient. -/
namespace Go.Proofs.YtajoimopahibcaaGreat
open Go.RowKit Go.Shelf
set_option maxRecDepth 100000

section
variable {m e b1 o1 la ca b2 o2 lb cb : Nat} {vC : Value} {bm : Nat}
end

end Go.Proofs.YtajoimopahibcaaGreat



/- The program's maker of rings, at a quotient. -/
namespace Go.Proofs.YtajoimopahibcaaGreat
open Go.RowKit
set_option maxRecDepth 100000

end Go.Proofs.YtajoimopahibcaaGreat



/- The ring of a quotient, as the program makes it. -/
namespace Go.Proofs.YtajoimopahibcaaGreat
open Go.RowKit Go.Shelf
set_option maxRecDepth 100000

end Go.Proofs.YtajoimopahibcaaGreat



/- PushIdeal of the program. -/
namespace Go.Proofs.YtajoimopahibcaaGreat
open Go.RowKit Go.Shelf
set_option maxRecDepth 100000

theorem QSt.next {m e b1 o1 la ca b2 o2 lb cb : Nat} {S : Nat → Nat} {p : Nat → Bool} {D : Nat} {mv : Value} {w w' : World} (h : QSt m e b1 o1 la ca b2 o2 lb cb S p D w mv) (hb : Below w.heap.size w w') : QSt m e b1 o1 la ca b2 o2 lb cb S p D w' mv := by
  obtain ⟨vC, bm, e1, h1, h2, h3⟩ := h
  exact ⟨vC, bm, e1, own_nextK h1 hb, h2.next hb, h3⟩
end Go.Proofs.YtajoimopahibcaaGreat

