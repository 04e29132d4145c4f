/- Texts of this seat in one: M2 G1 G2 R0 M3 M5 M7. -/
import Derived.Test.YtahdkdpliphcnaaMA
import Derived.StillTail
import Derived.Barred
import Derived.Test.YtahdkdpliphcnaaMB
import Derived.Maps.AppendAt
import Derived.OneCell
import Derived.Deep.AppendLies
import Derived.Deep.RegionLaw
import Derived.Laws.ResultCell
import Derived.Deep.OwnRows

/- Regions that draw their order and make blocks: one walk in the order of the text, the values of the makers as letters. -/
namespace Go.Proofs.Ytahdkdpliphcnaa
open Go.RowKit

/-- A function of the program that hands back one slot. -/
def Probe (P : Program) : Prop := ∃ (g : FuncId) (fn : Func) (d : Nat), P.funcs[g]? = some fn ∧ P.inits.idxOf? g = none ∧ fn.results = #[.tmp d] ∧ d < 64

/-- What a call hands back is told by where it begins. -/
theorem calls_det {P : Program} (hp : Probe P) {f : FuncId} {args : Array Value} {w : World} {u u' : Value} {A B : World → Prop}
    (h : Calls P f args w fun e w' => e = .returned u ∧ A w') (h' : Calls P f args w fun e w' => e = .returned u' ∧ B w') : u = u' := by
  obtain ⟨g, fn, d, hg, hi, hr, hd⟩ := hp
  let o : Oper := { dst := some d, op := .move (.const undef), type := 0, pos := "", after := #[], guard := none }
  let c : Frame := { fn := g, tmps := Array.replicate 64 undef, todo := [.inRegion #[o] [0]], defers := [], mode := .returning, kind := .normal }
  have key : ∀ {v : Value} {C : World → Prop}, Calls P f args w (fun e w' => e = .returned v ∧ C w') → ∃ n w1, runN P n (lone (Frame.enter P f args .normal) [c] w) = .ended (.done v) w1 := by
    intro v C hc
    obtain ⟨e, w1, fr, ⟨rfl, _⟩, ⟨n, hn⟩, hfn, hl⟩ := hc [c]
    have s1 := step_leave_returned (c := c) (cs := []) hl
    have hl2 : (c.finish v).leaving P w1 (.returned v) := by
      refine ⟨rfl, rfl, rfl, fn, hg, ?_⟩
      simp [Frame.finish, c, o, results, hr, hd]
    have s2 := step_leave_done hl2 hi
    refine ⟨n + 2, w1, ?_⟩
    rw [runN_add, hn]
    simp only [runN, s1, s2]
  obtain ⟨n, w1, h1⟩ := key h
  obtain ⟨n', w2, h2⟩ := key h'
  have := runN_same_end h1 h2
  injection this

section
variable {P : Program} {ops : Array Oper} {md : Region.Mode} {C : World → Prop} {mk : Nat → Bool} {Φ : Nat → Value → World → Prop} {vs : Nat → Value}

/-- The block that a slice or a pointer leads to. -/
def blockOf : Value → Option Nat
  | .slice (some a) _ _ => some a.block
  | .pointer (some a) => some a.block
  | _ => none
/-- A block that was made between two worlds. -/
def FreshIn (w w' : World) (u : Value) : Prop := ∀ b, blockOf u = some b → w.heap.size ≤ b ∧ b < w'.heap.size
/-- A maker: from each world of the class it yields some value, in a world that leaves all old memory alone and of which the fact holds. -/
def makesUpon (P : Program) (w : World) (F : Value → World → Prop) : Result Next → Prop
  | .ok (.value u) w' => Below w.heap.size w w' ∧ F u w' ∧ FreshIn w w' u
  | .ok (.enter f args) w' => w' = w ∧ Calls P f args w (fun e w'' => ∃ u, e = .returned u ∧ Below w.heap.size w w'' ∧ F u w'' ∧ FreshIn w w'' u)
  | _ => False
def makesAt (P : Program) (o : Oper) (a : Act) (w : World) (F : Value → World → Prop) : Prop := makesUpon P w F ((execOp a.eval o).run P w)

theorem quiet_det (hp : Probe P) {o : Oper} {a : Act} {C C' : World → Prop} {w : World} {v v' : Value} (h : o.quietAt P a C w v) (h' : o.quietAt P a C' w v') : v = v' := by
  unfold Oper.quietAt at h h'
  generalize (execOp a.eval o).run P w = r at *
  cases r with
  | ok n w' =>
    cases n <;> simp only [Oper.quietUpon] at h h'
    case value u => exact h.2.symm.trans h'.2
    case skip => exact h.2.trans h'.2.symm
    case enter f args => exact calls_det hp h.2 h'.2
  | halt x w' => simp only [Oper.quietUpon] at h

def YieldsV (P : Program) (ops : Array Oper) (C : World → Prop) (mk : Nat → Bool) (Φ : Nat → Value → World → Prop) (vs : Nat → Value) (i : Nat) (o : Oper) (v : Value) (a : Act) : Prop :=
  (mk i = true ∧ Region.wanted o (yielded ops a.tmps) = true ∧ (∀ w, C w → makesAt P o a w (Φ i)) ∧ v = vs i) ∨
  (mk i = false ∧ Region.wanted o (yielded ops a.tmps) = true ∧ ∀ w, C w → o.quietAt P a C w v) ∨
  (mk i = false ∧ Region.wanted o (yielded ops a.tmps) = false ∧ v = undef)
theorem YieldsV.of_same {i : Nat} {o : Oper} {v : Value} {a a' : Act} (hy : YieldsV P ops C mk Φ vs i o v a) (he : execOp a'.eval o = execOp a.eval o)
    (hw : Region.wanted o (yielded ops a'.tmps) = Region.wanted o (yielded ops a.tmps)) : YieldsV P ops C mk Φ vs i o v a' := by
  unfold YieldsV Oper.quietAt makesAt at *
  rw [he, hw]
  exact hy
theorem wp_of_quietE {o : Oper} {a : Act} {w : World} {v : Value} {K : Act → World → Prop} {Q' : Exit → Act → World → Prop} (hh : o.quietAt P a (fun w' => ∃ u : Ext w, w' = ext w u) w v)
    (h : ∀ w', Below w.heap.size w w' → K (a.put o.dst v) w') : o.wp P a w K Q' := by
  unfold Oper.quietAt at hh
  unfold Oper.wp
  generalize (execOp a.eval o).run P w = r at *
  cases r with
  | ok n w' =>
    cases n <;> simp only [Oper.quietUpon] at hh <;> simp only [Oper.upon]
    case value u => obtain ⟨e1, e2⟩ := hh; rw [e1, e2]; exact h _ (Below.refl _ _)
    case skip => obtain ⟨e1, e2⟩ := hh; rw [e1, ← e2]; exact h _ (Below.refl _ _)
    case enter f args =>
      obtain ⟨e1, hc⟩ := hh
      rw [e1]
      exact hc.mono fun e w'' ⟨he, u, hu⟩ => by subst he; rw [hu]; exact h _ u.below
  | halt x w' => simp only [Oper.quietUpon] at hh
end

/-- The worlds that leave the old memory of this one alone. -/
abbrev extC (w : World) : World → Prop := fun w' => ∃ u : Ext w, w' = ext w u
theorem extC_of {w w' : World} (h : Below w.heap.size w w') : extC w w' := ⟨⟨w', h⟩, rfl⟩

section
variable {P : Program} {ops : Array Oper} {mk : Nat → Bool} {Φ : Nat → Value → World → Prop}

/-- The blocks that the makers that have come up lead to: all there, no two the same. -/
def ApartV (mk : Nat → Bool) (listed : Array Bool) (val : Nat → Value) (w : World) : Prop :=
  (∀ i, mk i = true → listed.getD i false = true → ∀ b, blockOf (val i) = some b → b < w.heap.size) ∧
  (∀ i j, i ≠ j → mk i = true → mk j = true → listed.getD i false = true → listed.getD j false = true → ∀ b, blockOf (val i) = some b → blockOf (val j) ≠ some b)
theorem ApartV.next {listed : Array Bool} {val : Nat → Value} {w w' : World} (h : ApartV mk listed val w) (hb : Below w.heap.size w w') : ApartV mk listed val w' :=
  ⟨fun i h1 h2 b h3 => Nat.lt_of_lt_of_le (h.1 i h1 h2 b h3) hb.size, h.2⟩
theorem ApartV.quiet {listed : Array Bool} {val : Nat → Value} {w : World} {i : Nat} (h : ApartV mk listed val w) (hi : mk i = false) : ApartV mk (listed.setIfInBounds i true) val w := by
  have back : ∀ j, mk j = true → (listed.setIfInBounds i true).getD j false = true → listed.getD j false = true := fun j hj hl => by
    rw [getD_set_ne false (fun e => by rw [← e, hi] at hj; cases hj)] at hl; exact hl
  exact ⟨fun j h1 h2 => h.1 j h1 (back j h1 h2), fun j k hne h1 h2 h3 h4 => h.2 j k hne h1 h2 (back j h1 h3) (back k h2 h4)⟩
theorem ApartV.made {listed : Array Bool} {val : Nat → Value} {w w' : World} {i : Nat} {u : Value} (h : ApartV mk listed val w) (hb : Below w.heap.size w w') (hf : FreshIn w w' u) :
    ApartV mk (listed.setIfInBounds i true) (fun j => if j = i then u else val j) w' := by
  have back : ∀ j, j ≠ i → (listed.setIfInBounds i true).getD j false = true → listed.getD j false = true := fun j hj hl => by
    rw [getD_set_ne false (Ne.symm hj)] at hl; exact hl
  refine ⟨fun j h1 h2 b h3 => ?_, fun j k hne h1 h2 h3 h4 b h5 h6 => ?_⟩
  · by_cases e : j = i
    · subst e; simp only [if_true] at h3; exact (hf b h3).2
    · simp only [e, if_false] at h3; exact Nat.lt_of_lt_of_le (h.1 j h1 (back j e h2) b h3) hb.size
  · by_cases e : j = i
    · have e' : k ≠ i := fun e2 => hne (e.trans e2.symm)
      simp only [e, if_true] at h5
      simp only [e', if_false] at h6
      have := h.1 k h2 (back k e' h4) b h6
      have := (hf b h5).1
      omega
    · simp only [e, if_false] at h5
      have l5 := h.1 j h1 (back j e h3) b h5
      by_cases e' : k = i
      · simp only [e', if_true] at h6
        have := (hf b h6).1
        omega
      · simp only [e', if_false] at h6
        exact h.2 j k hne h1 h2 (back j e h3) (back k e' h4) b h5 h6

end

end Go.Proofs.Ytahdkdpliphcnaa



/- A ring that is built in a box of its own: two slices that grow. -/
namespace Go.Proofs.Ytahdkdpliphcnaa
open Go.RowKit

/-- A box whose two slices are the call's own, and share no block. -/
structure Grow (D : Nat) (w : World) (bx : Nat) (n o : Int) (v2 v3 : Value) (k2 k3 : Nat) (X Y : List Int) : Prop where
  box : Blk w bx 27 #[.int .i64 n, .int .i64 o, v2, v3]
  hD : D ≤ bx
  o2 : w.ownsRow D 3 1 v2 k2 (X.map (.int .i64))
  o3 : w.ownsRow D 3 1 v3 k3 (Y.map (.int .i64))
  n2 : v2.ownBlock ≠ some bx
  n3 : v3.ownBlock ≠ some bx
  n23 : ∀ g, v2.ownBlock = some g → v3.ownBlock ≠ some g
theorem Grow.keep {D : Nat} {w w' : World} {bx : Nat} {n o : Int} {v2 v3 : Value} {k2 k3 : Nat} {X Y : List Int} (h : Grow D w bx n o v2 v3 k2 k3 X Y) (hb : Below w.heap.size w w') : Grow D w' bx n o v2 v3 k2 k3 X Y :=
  ⟨h.box.below hb h.box.lt, h.hD, h.o2.kept (Below.grown_ hb) (by cases v2.ownBlock <;> simp), h.o3.kept (Below.grown_ hb) (by cases v3.ownBlock <;> simp), h.n2, h.n3, h.n23⟩

end Go.Proofs.Ytahdkdpliphcnaa



/- The integers by a number, as the reading side makes them. -/
namespace Go.Proofs.Ytahdkdpliphcnaa
open Go.RowKit

/-- A ring that a call made: its slices are its own, and share no block. -/
def NewRing (D : Nat) (w : World) (v : Value) (n o : Int) (k : Nat) (X Y : List Int) : Prop :=
  ∃ v2 v3, v = .agg #[.int .i64 n, .int .i64 o, v2, v3] ∧ w.ownsRow D 3 1 v2 k (X.map (.int .i64)) ∧ w.ownsRow D 3 1 v3 k (Y.map (.int .i64)) ∧ (∀ g, v2.ownBlock = some g → v3.ownBlock ≠ some g)

theorem NewRing.mono {D D' : Nat} {w : World} {v : Value} {n o : Int} {k : Nat} {X Y : List Int} (h : NewRing D w v n o k X Y) (hD : D' ≤ D) : NewRing D' w v n o k X Y := by
  obtain ⟨v2, v3, rfl, h2, h3, h4⟩ := h
  exact ⟨v2, v3, rfl, own_base h2 hD, own_base h3 hD, h4⟩
end Go.Proofs.Ytahdkdpliphcnaa



/- Rings that a call hands out: own memory. -/
namespace Go.Proofs.Ytahdkdpliphcnaa
open Go.RowKit

/-- A ring whose memory is the call's own. -/
def RingOut (D : Nat) (w : World) (v : Value) (n o : Int) (X Y : List Int) : Prop :=
  ∃ (A : Option Addr) (la ca : Nat) (B : Option Addr) (lb cb : Nat), v = .agg #[.int .i64 n, .int .i64 o, .slice A la ca, .slice B lb cb] ∧ Own w D A la X ∧ Own w D B lb Y ∧ Apart A la B lb ∧ la ≤ 1048570 ∧ lb ≤ 1048570 ∧ la + lb ≤ 1048570 ∧ la ≤ ca ∧ lb ≤ cb
theorem RingOut.zero {D : Nat} {w : World} : RingOut D w (.agg #[.int .i64 0, .int .i64 0, .slice none 0 0, .slice none 0 0]) 0 0 [] [] :=
  ⟨none, 0, 0, none, 0, 0, rfl, Own.nil, Own.nil, fun p h => (by obtain ⟨_, _, _, e, _⟩ := h; cases e), by omega, by omega, by omega, by omega, by omega⟩
theorem RingOut.next {D : Nat} {w w' : World} {v : Value} {n o : Int} {X Y : List Int} (h : RingOut D w v n o X Y) (hb : Below w.heap.size w w') : RingOut D w' v n o X Y := by
  obtain ⟨A, la, ca, B, lb, cb, e, h1, h2, h3⟩ := h
  exact ⟨A, la, ca, B, lb, cb, e, h1.next hb, h2.next hb, h3⟩
theorem NewRing.out {D : Nat} {w : World} {v : Value} {n o : Int} {k : Nat} {X Y : List Int} (h : NewRing D w v n o k X Y) (hk : k ≤ 1000) (hX : X.length = k) (hY : Y.length = k) : RingOut D w v n o X Y := by
  obtain ⟨v2, v3, rfl, h2, h3, h4⟩ := h
  rcases h2.2 with ⟨rfl, hk0⟩ | ⟨g, cap, cur, rfl, _, _, hc, _⟩
  · subst hk0
    obtain rfl := List.eq_nil_of_length_eq_zero hX
    obtain rfl := List.eq_nil_of_length_eq_zero hY
    rcases h3.2 with ⟨rfl, _⟩ | ⟨g', cap', cur', rfl, _⟩
    · exact ⟨none, 0, 0, none, 0, 0, rfl, Own.nil, Own.nil, fun p h => (by obtain ⟨_, _, _, e, _⟩ := h; cases e), by omega, by omega, by omega, by omega, by omega⟩
    · exact ⟨none, 0, 0, some ⟨g', 0, none⟩, 0, cap', rfl, Own.nil, Own.nil, fun p h => (by obtain ⟨_, _, _, e, _⟩ := h; cases e), by omega, by omega, by omega, by omega, by omega⟩
  · rcases h3.2 with ⟨rfl, hk0⟩ | ⟨g', cap', cur', rfl, _, _, hc', _⟩
    · subst hk0
      obtain rfl := List.eq_nil_of_length_eq_zero hX
      obtain rfl := List.eq_nil_of_length_eq_zero hY
      exact ⟨some ⟨g, 0, none⟩, 0, cap, none, 0, 0, rfl, Own.nil, Own.nil, fun p _ h => (by obtain ⟨_, _, _, e, _⟩ := h; cases e), by omega, by omega, by omega, by omega, by omega⟩
    · refine ⟨some ⟨g, 0, none⟩, k, cap, some ⟨g', 0, none⟩, k, cap', rfl, own_of_row h2 hX, own_of_row h3 hY, ?_, by omega, by omega, by omega, hc, hc'⟩
      rintro p ⟨q, off, j, e, _, rfl⟩ ⟨q', off', j', e', _, ep⟩
      have e1 : g = q := by simpa using congrArg (fun x => x.map Addr.block) e
      have e2 : g' = q' := by simpa using congrArg (fun x => x.map Addr.block) e'
      have e3 : q = q' := by injection ep
      exact h4 g rfl (by rw [e1, e3, ← e2]; rfl)

theorem results_cell_flag {P : Program} {fn : Func} {p u : Tmp} {ty : TypeId} (h : fn.results = #[.cell p ty, .tmp u]) (tmps : Array Value) (w : World) (g : Nat) (t : TypeId) (cs : Array Value) (d : TypeDesc) (b : Value)
    (hp : tmps.getD p undef = .pointer (some ⟨g, 0, none⟩)) (hb : tmps.getD u undef = b) (hg : Blk w g t cs)
    (hu : P.underlying ty = some d) (hd : (match d with | .struct _ | .array _ _ => true | _ => false) = true) (hi : (P.info? ty).map (·.size) = some cs.size) :
    (results fn tmps).run P w = .ok (.tuple #[.agg cs, b]) w := by
  rw [results_cell_tmp h, hp, hb]
  simp [asAddr, run_loadVar_row w g t ty cs (0, 0) d hg hu hd hi]

end Go.Proofs.Ytahdkdpliphcnaa



/- Makers: rows of ints, boxes of rings. -/
namespace Go.Proofs.Ytahdkdpliphcnaa
open Go.RowKit
set_option maxRecDepth 100000

theorem probe : Probe Try.prog := ⟨80, Try.f80, 4, by kernel_rfl, by kernel_rfl, by kernel_rfl, by decide⟩
end Go.Proofs.Ytahdkdpliphcnaa



/- Regions that draw their order and make blocks: makers that lean on makers. -/
namespace Go.Proofs.Ytahdkdpliphcnaa
open Go.RowKit

section
variable {P : Program} {ops : Array Oper} {md : Region.Mode} {C : World → Prop} {mk : Nat → Bool} {Φ : Nat → Value → World → Prop} {vs : Nat → Value}

/-- The block that a slice leads to. -/
def sliceBlocks : Value → List Nat
  | .slice (some a) _ _ => [a.block]
  | _ => []
/-- The blocks that a value leads to: of a slice, a pointer, a ring with a flag. -/
def blocksOf : Value → List Nat
  | .slice (some a) _ _ => [a.block]
  | .pointer (some a) => [a.block]
  | .tuple vs => match vs.getD 0 undef with
    | .agg cs => sliceBlocks (cs.getD 2 undef) ++ sliceBlocks (cs.getD 3 undef)
    | _ => []
  | _ => []
/-- A block that was made between two worlds. -/
def FreshInD (w w' : World) (u : Value) : Prop := ∀ b, b ∈ blocksOf u → w.heap.size ≤ b ∧ b < w'.heap.size
/-- A maker: from each world of the class it yields some value, in a world that leaves all old memory alone and of which the fact holds. -/
def makesUponD (P : Program) (w : World) (F : Value → World → Prop) : Result Next → Prop
  | .ok (.value u) w' => Below w.heap.size w w' ∧ F u w' ∧ FreshInD w w' u
  | .ok (.enter f args) w' => w' = w ∧ Calls P f args w (fun e w'' => ∃ u, e = .returned u ∧ Below w.heap.size w w'' ∧ F u w'' ∧ FreshInD w w'' u)
  | _ => False
def makesAtD (P : Program) (o : Oper) (a : Act) (w : World) (F : Value → World → Prop) : Prop := makesUponD P w F ((execOp a.eval o).run P w)


/-- The facts of the makers that an operation waits for. -/
def depsOk (mk : Nat → Bool) (Φ : Nat → Value → World → Prop) (vs : Nat → Value) (o : Oper) (w : World) : Prop := ∀ e ∈ o.after, Region.binds .any e = true → mk e.on = true → Φ e.on (vs e.on) w
def YieldsVD (P : Program) (ops : Array Oper) (C : World → Prop) (mk : Nat → Bool) (Φ : Nat → Value → World → Prop) (vs : Nat → Value) (i : Nat) (o : Oper) (v : Value) (a : Act) : Prop :=
  (mk i = true ∧ Region.wanted o (yielded ops a.tmps) = true ∧ (∀ w, C w → depsOk mk Φ vs o w → makesAtD P o a w (Φ i)) ∧ v = vs i) ∨
  (mk i = false ∧ Region.wanted o (yielded ops a.tmps) = true ∧ ∀ w, C w → o.quietAt P a C w v) ∨
  (mk i = false ∧ Region.wanted o (yielded ops a.tmps) = false ∧ v = undef)
theorem YieldsVD.of_same {i : Nat} {o : Oper} {v : Value} {a a' : Act} (hy : YieldsVD P ops C mk Φ vs i o v a) (he : execOp a'.eval o = execOp a.eval o)
    (hw : Region.wanted o (yielded ops a'.tmps) = Region.wanted o (yielded ops a.tmps)) : YieldsVD P ops C mk Φ vs i o v a' := by
  unfold YieldsVD Oper.quietAt makesAtD at *
  rw [he, hw]
  exact hy
end

section
variable {P : Program} {ops : Array Oper} {mk : Nat → Bool} {Φ : Nat → Value → World → Prop}

/-- The blocks that the makers that have come up lead to: all there, no two the same. -/
def ApartVD (mk : Nat → Bool) (listed : Array Bool) (val : Nat → Value) (w : World) : Prop :=
  (∀ i, mk i = true → listed.getD i false = true → ∀ b, b ∈ blocksOf (val i) → b < w.heap.size) ∧
  (∀ i j, i ≠ j → mk i = true → mk j = true → listed.getD i false = true → listed.getD j false = true → ∀ b, b ∈ blocksOf (val i) → b ∉ blocksOf (val j))
theorem ApartVD.next {listed : Array Bool} {val : Nat → Value} {w w' : World} (h : ApartVD mk listed val w) (hb : Below w.heap.size w w') : ApartVD mk listed val w' :=
  ⟨fun i h1 h2 b h3 => Nat.lt_of_lt_of_le (h.1 i h1 h2 b h3) hb.size, h.2⟩
theorem ApartVD.quiet {listed : Array Bool} {val : Nat → Value} {w : World} {i : Nat} (h : ApartVD mk listed val w) (hi : mk i = false) : ApartVD mk (listed.setIfInBounds i true) val w := by
  have back : ∀ j, mk j = true → (listed.setIfInBounds i true).getD j false = true → listed.getD j false = true := fun j hj hl => by
    rw [getD_set_ne false (fun e => by rw [← e, hi] at hj; cases hj)] at hl; exact hl
  exact ⟨fun j h1 h2 => h.1 j h1 (back j h1 h2), fun j k hne h1 h2 h3 h4 => h.2 j k hne h1 h2 (back j h1 h3) (back k h2 h4)⟩
theorem ApartVD.made {listed : Array Bool} {val : Nat → Value} {w w' : World} {i : Nat} {u : Value} (h : ApartVD mk listed val w) (hb : Below w.heap.size w w') (hf : FreshInD w w' u) :
    ApartVD mk (listed.setIfInBounds i true) (fun j => if j = i then u else val j) w' := by
  have back : ∀ j, j ≠ i → (listed.setIfInBounds i true).getD j false = true → listed.getD j false = true := fun j hj hl => by
    rw [getD_set_ne false (Ne.symm hj)] at hl; exact hl
  refine ⟨fun j h1 h2 b h3 => ?_, fun j k hne h1 h2 h3 h4 b h5 h6 => ?_⟩
  · by_cases e : j = i
    · subst e; simp only [if_true] at h3; exact (hf b h3).2
    · simp only [e, if_false] at h3; exact Nat.lt_of_lt_of_le (h.1 j h1 (back j e h2) b h3) hb.size
  · by_cases e : j = i
    · have e' : k ≠ i := fun e2 => hne (e.trans e2.symm)
      simp only [e, if_true] at h5
      simp only [e', if_false] at h6
      have := h.1 k h2 (back k e' h4) b h6
      have := (hf b h5).1
      omega
    · simp only [e, if_false] at h5
      have l5 := h.1 j h1 (back j e h3) b h5
      by_cases e' : k = i
      · simp only [e', if_true] at h6
        have := (hf b h6).1
        omega
      · simp only [e', if_false] at h6
        exact h.2 j k hne h1 h2 (back j e h3) (back k e' h4) b h5 h6

end

end Go.Proofs.Ytahdkdpliphcnaa



/- Regions that draw their order and call functions that change a state: one walk, over any relation between worlds and an invariant with fuel. -/
namespace Go.Proofs.Ytahdkdpliphcnaa
open Go.RowKit

section
variable {P : Program} {ops : Array Oper} {md : Region.Mode} {R : World → World → Prop} {I : Nat → World → Prop} {C : World → Prop} {mk : Nat → Bool} {Φ : Nat → Value → World → Prop} {vs : Nat → Value}

/-- A maker: it yields some value, in a world that stands to this one as the relation says, of which the invariant and the fact hold. -/
def makesUponR (P : Program) (R : World → World → Prop) (J : World → Prop) (w : World) (F : Value → World → Prop) : Result Next → Prop
  | .ok (.value u) w' => R w w' ∧ J w' ∧ F u w'
  | .ok .skip w' => R w w' ∧ J w' ∧ F undef w'
  | .ok (.enter f args) w' => w' = w ∧ Calls P f args w (fun e w'' => ∃ u, e = .returned u ∧ R w w'' ∧ J w'' ∧ F u w'')
  | _ => False
def makesAtR (P : Program) (R : World → World → Prop) (J : World → Prop) (o : Oper) (a : Act) (w : World) (F : Value → World → Prop) : Prop := makesUponR P R J w F ((execOp a.eval o).run P w)
/-- An operation that enters no function. -/
def NoEnter (P : Program) (o : Oper) : Prop := ∀ ev w f args w', (execOp ev o).run P w ≠ .ok (.enter f args) w'

/-- The facts of the makers that an operation waits for. -/
def depsOkR (mk : Nat → Bool) (Φ : Nat → Value → World → Prop) (vs : Nat → Value) (o : Oper) (w : World) : Prop := ∀ e ∈ o.after, Region.binds .any e = true → mk e.on = true → Φ e.on (vs e.on) w
def YieldsVR (P : Program) (ops : Array Oper) (R : World → World → Prop) (I : Nat → World → Prop) (C : World → Prop) (mk : Nat → Bool) (Φ : Nat → Value → World → Prop) (vs : Nat → Value) (i : Nat) (o : Oper) (v : Value) (a : Act) : Prop :=
  (mk i = true ∧ Region.wanted o (yielded ops a.tmps) = true ∧ (∀ w f, C w → I (f + 1) w → depsOkR mk Φ vs o w → makesAtR P R (I f) o a w (Φ i)) ∧ v = vs i) ∨
  (mk i = false ∧ Region.wanted o (yielded ops a.tmps) = true ∧ NoEnter P o ∧ ∀ w, C w → o.quietAt P a C w v) ∨
  (mk i = false ∧ Region.wanted o (yielded ops a.tmps) = false ∧ v = undef)
theorem YieldsVR.of_same {i : Nat} {o : Oper} {v : Value} {a a' : Act} (hy : YieldsVR P ops R I C mk Φ vs i o v a) (he : execOp a'.eval o = execOp a.eval o)
    (hw : Region.wanted o (yielded ops a'.tmps) = Region.wanted o (yielded ops a.tmps)) : YieldsVR P ops R I C mk Φ vs i o v a' := by
  unfold YieldsVR Oper.quietAt makesAtR at *
  rw [he, hw]
  exact hy
end

/-- The worlds that stand to this one as the relation says. -/
structure ExtR (R : World → World → Prop) (w : World) where
  to : World
  rel : R w to
section
variable {P : Program} {ops : Array Oper} {R : World → World → Prop} {I : Nat → World → Prop} {mk : Nat → Bool} {Φ : Nat → Value → World → Prop}

end


/-- No run of it enters a function. -/
def NE (s : Sem Next) : Prop := ∀ P w f args w', s.run P w ≠ .ok (.enter f args) w'
theorem NE.halt (x : _) : NE (.halt x) := fun P w f args w' e => by cases e
end Go.Proofs.Ytahdkdpliphcnaa

