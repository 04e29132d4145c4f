
/- Small general lemmas on worlds, slices of numbers and boxed rings; no program in sight. -/
import Derived.Test.YtpdonhoeimenjaaRows
import Derived.WalkKit
import Derived.WalkSpells
import Derived.WalkLawsBesides
import Derived.Deep.QuietTactic
import Derived.BigQuiet
import Derived.StillTailTactics
import Derived.Lib.Hide
import Derived.Deep.RegionHeld3
import Derived.Deep.RegionWith
import Derived.Deep.DrawnRows
namespace Go.Proofs.Ytpdonhoeimenjaa
open Go.RowKit

theorem below_drewN {B : Nat} {a w : World} (h : Below B a w) (n : Nat) : Below B a (w.drewN n) := ⟨h.os, h.tape, h.output, h.size, h.block⟩
theorem ret_slice {A : Option Addr} {n n' c c' : Nat} (h : n = n') (h' : c = c') : Ending.returned (.slice A n c) = .returned (.slice A n' c') := by rw [h, h']
theorem ret_bool {a b : Bool} (h : a = b) : Ending.returned (.bool a) = .returned (.bool b) := by rw [h]
theorem ret_int {k : IntKind} {a b : Int} (h : a = b) : Ending.returned (.int k a) = .returned (.int k b) := by rw [h]

/-- A proposition as a Bool. -/
noncomputable def propB (p : Prop) : Bool := @decide p (Classical.propDecidable p)
theorem propB_true {p : Prop} (h : p) : propB p = true := @decide_eq_true p (Classical.propDecidable p) h
theorem propB_false {p : Prop} (h : ¬ p) : propB p = false := @decide_eq_false p (Classical.propDecidable p) h
theorem propB_iff {p : Prop} : propB p = true ↔ p := ⟨fun h => @of_decide_eq_true p (Classical.propDecidable p) h, propB_true⟩

/-- A slice of ints that reads as a list, nil let in; its cells lie below block B. -/
def Ints (w : World) (B : Nat) (A : Option Addr) (n : Nat) (xs : List Int) : Prop :=
  xs.length = n ∧ (0 < n → ∃ b off, A = some ⟨b, off, none⟩ ∧ b < B ∧ ∀ k x, xs[k]? = some x → w.cell? ⟨b, off + k, none⟩ = some (.int .i64 x))

theorem Ints.keep {w w' : World} {B n : Nat} {A : Option Addr} {xs : List Int} (h : Ints w B A n xs) (hk : ∀ p : Addr, p.block < B → w'.cell? p = w.cell? p) : Ints w' B A n xs :=
  ⟨h.1, fun hn => by
    obtain ⟨b, off, e, hb, hc⟩ := h.2 hn
    exact ⟨b, off, e, hb, fun k x hx => (hk _ hb).trans (hc k x hx)⟩⟩
theorem Ints.more {w : World} {B B' n : Nat} {A : Option Addr} {xs : List Int} (h : Ints w B A n xs) (hB : B ≤ B') : Ints w B' A n xs :=
  ⟨h.1, fun hn => by
    obtain ⟨b, off, e, hb, hc⟩ := h.2 hn
    exact ⟨b, off, e, by omega, hc⟩⟩
theorem Ints.below {w w' : World} {B C n : Nat} {A : Option Addr} {xs : List Int} (h : Ints w B A n xs) (hb : Below C w w') (hB : B ≤ C) : Ints w' B A n xs := h.keep fun _ hp => hb.cell (by omega)
theorem Ints.alloc {w : World} {B n : Nat} {A : Option Addr} {xs : List Int} (h : Ints w B A n xs) (hB : B ≤ w.heap.size) (o : Obj) : Ints (w.alloc o) B A n xs := h.keep fun p hp => World.cell?_alloc_lt w o p (by omega)
theorem Ints.at_ {w : World} {B n k : Nat} {A : Option Addr} {xs : List Int} (h : Ints w B A n xs) (hk : k < n) :
    ∃ b off, A = some ⟨b, off, none⟩ ∧ b < B ∧ w.cell? ⟨b, off + k, none⟩ = some (.int .i64 (xs[k]?.getD 0)) := by
  obtain ⟨b, off, e, hb, hc⟩ := h.2 (by omega)
  have hl : k < xs.length := by rw [h.1]; exact hk
  refine ⟨b, off, e, hb, ?_⟩
  rw [List.getElem?_eq_getElem hl]
  exact hc k _ (List.getElem?_eq_getElem hl)

/-- The cells of a box of four, however the world has grown since. -/
theorem box4 {w wr : World} {a b c d : Value} {T : TypeId} (h : Below (w.heap.size + 1) (w.alloc (.cells #[a, b, c, d] T)) wr) :
    wr.cell? ⟨w.heap.size, 0, none⟩ = some a ∧ wr.cell? ⟨w.heap.size, 1, none⟩ = some b ∧ wr.cell? ⟨w.heap.size, 2, none⟩ = some c ∧ wr.cell? ⟨w.heap.size, 3, none⟩ = some d ∧ w.heap.size < wr.heap.size := by
  have hs := h.size
  have e : (w.alloc (.cells #[a, b, c, d] T)).heap.size = w.heap.size + 1 := by simp
  have hn := heap_alloc_new w (.cells #[a, b, c, d] T)
  refine ⟨?_, ?_, ?_, ?_, by omega⟩ <;>
    exact (h.cell (by simp)).trans (cell_of_row _ _ _ _ _ (0, 0) hn)

theorem below_of_box {w wr : World} {o : Obj} (h : Below (w.heap.size + 1) (w.alloc o) wr) : Below w.heap.size w wr :=
  ((Below.refl _ _).alloc (Nat.le_refl _) o).trans (h.mono (by omega))
theorem below_box {w wr w1 : World} {o : Obj} (h : Below (w.heap.size + 1) (w.alloc o) wr) (h1 : Below wr.heap.size wr w1) (hs : w.heap.size < wr.heap.size) : Below w.heap.size w w1 :=
  (below_of_box h).trans (h1.mono (by omega))

/-- The cells of a box are the same behind a call that leaves all old memory alone. -/
theorem box4_next {W w1 : World} {g B : Nat} {a b c d : Value} (h : Below B W w1) (hg : g < B)
    (c0 : W.cell? ⟨g, 0, none⟩ = some a) (c1 : W.cell? ⟨g, 1, none⟩ = some b) (c2 : W.cell? ⟨g, 2, none⟩ = some c) (c3 : W.cell? ⟨g, 3, none⟩ = some d) :
    w1.cell? ⟨g, 0, none⟩ = some a ∧ w1.cell? ⟨g, 1, none⟩ = some b ∧ w1.cell? ⟨g, 2, none⟩ = some c ∧ w1.cell? ⟨g, 3, none⟩ = some d ∧ W.heap.size ≤ w1.heap.size :=
  ⟨(h.cell hg).trans c0, (h.cell hg).trans c1, (h.cell hg).trans c2, (h.cell hg).trans c3, h.size⟩
/-- The cells of a box just made. -/
theorem box4_new (w : World) (a b c d : Value) (T : TypeId) : (w.alloc (.cells #[a, b, c, d] T)).cell? ⟨w.heap.size, 0, none⟩ = some a ∧ (w.alloc (.cells #[a, b, c, d] T)).cell? ⟨w.heap.size, 1, none⟩ = some b ∧
    (w.alloc (.cells #[a, b, c, d] T)).cell? ⟨w.heap.size, 2, none⟩ = some c ∧ (w.alloc (.cells #[a, b, c, d] T)).cell? ⟨w.heap.size, 3, none⟩ = some d ∧ w.heap.size < (w.alloc (.cells #[a, b, c, d] T)).heap.size :=
  box4 (Below.refl _ _)

/-! A region that draws its order, whose operations read and whose callees read and make new blocks: one walk in the order of the text, over the class of the worlds that leave all old memory alone. -/
structure Ext (w : World) where
  to : World
  below : Below w.heap.size w to
instance (w : World) : Nonempty (Ext w) := ⟨⟨w, Below.refl _ _⟩⟩
def ext (w : World) (u : Ext w) : World := u.to
theorem ext_below (w : World) (u : Ext w) : Below w.heap.size w (ext w u) := u.below
theorem ext_lt {w : World} {p : Addr} (h : (w.cell? p).isSome = true) : p.block < w.heap.size := by
  obtain ⟨v, hv⟩ := Option.isSome_iff_exists.1 h
  exact block_lt_of_cell hv
@[go_sem] theorem cell?_ext (w : World) (u : Ext w) (p : Addr) (h : (w.cell? p).isSome = true) : (ext w u).cell? p = w.cell? p := (ext_below w u).cell (ext_lt h)
theorem Ints.ext {w : World} {B n : Nat} {A : Option Addr} {xs : List Int} (h : Ints w B A n xs) (hB : B ≤ w.heap.size) (u : Ext w) : Ints (ext w u) B A n xs := h.below (ext_below w u) hB
theorem ext_size (w : World) (u : Ext w) : w.heap.size ≤ (ext w u).heap.size := (ext_below w u).size
theorem calls_ext {P : Program} {f : FuncId} {args : Array Value} {w : World} {u : Ext w} {v : Value}
    (h : Calls P f args (ext w u) fun e w' => e = .returned v ∧ Below (ext w u).heap.size (ext w u) w') : Calls P f args (ext w u) fun e w'' => e = .returned v ∧ ∃ u' : Ext w, w'' = ext w u' :=
  h.mono fun _ _ ⟨he, hb⟩ => ⟨he, ⟨_, (ext_below w u).trans (hb.mono (ext_size w u))⟩, rfl⟩
theorem wpQuiet_post {P : Program} {ops : Array Oper} {C : World → Prop} {Q Q' : Act → Prop} : ∀ {l : List Oper} {a : Act}, wpQuiet P ops C Q l a → (∀ a, Q a → Q' a) → wpQuiet P ops C Q' l a
  | [], _, h, hq => hq _ h
  | o :: rest, a, h, hq => by
    unfold wpQuiet at h ⊢
    split
    · rename_i hw
      rw [if_pos hw] at h
      exact Oper.quiet_mono (fun _ h' => wpQuiet_post h' hq) h
    · rename_i hw
      rw [if_neg hw] at h
      exact wpQuiet_post h hq
theorem wp_region_ext {P : Program} {id : Nat} {Q : Exit → Act → World → Prop} {a : Act} {w : World} {l : List Oper} (hm : P.follows .mixedOrders = true) (hB : Region.lexB .any l.toArray = true)
    (h : wpQuiet P l.toArray (fun w' => ∃ u : Ext w, w' = ext w u) (fun a' => ∀ w1, Below w.heap.size w w1 → Q .normal a' w1) l a) : (Code.region id l.toArray true).wp P Q a w :=
  wp_region_quiet (C := fun w' => ∃ u : Ext w, w' = ext w u) hm hB ⟨⟨w.drew, (Below.refl _ _).drew⟩, rfl⟩ (by
    simp only
    refine wpQuiet_post h ?_
    rintro a' h' _ ⟨u, rfl⟩
    exact h' _ u.below)

end Go.Proofs.Ytpdonhoeimenjaa
