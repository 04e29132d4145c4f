/- Texts of this seat in one: 0 A1 A2 A3 A4 A5 A6 A7 A8 A9 B1 B2. -/
import Derived.Test.YtlcpbdbdiahmjaaRows
import Derived.WalkKit
import Derived.WalkSpells
import Derived.WalkLawsBesides
import Derived.Deep.QuietTactic
import Derived.BigQuiet
import Derived.StillTailTactics
import Derived.Lib.Hide
import Derived.Deep.RegionHeld3
import Derived.Deep.RegionWith
import Derived.Deep.DrawnRows
import Derived.ChangeKeysEq
import Derived.Deep.LoopGhost
import Derived.WalkMore

/- Small general lemmas on worlds, slices of numbers and boxed rings; no program in sight. -/
namespace Go.Proofs.Ytlcpbdbdiahmjaa
open Go.RowKit

theorem below_drewN {B : Nat} {a w : World} (h : Below B a w) (n : Nat) : Below B a (w.drewN n) := ⟨h.os, h.tape, h.output, h.size, h.block⟩
theorem ret_slice {A : Option Addr} {n n' c c' : Nat} (h : n = n') (h' : c = c') : Ending.returned (.slice A n c) = .returned (.slice A n' c') := by rw [h, h']
theorem ret_bool {a b : Bool} (h : a = b) : Ending.returned (.bool a) = .returned (.bool b) := by rw [h]
theorem ret_int {k : IntKind} {a b : Int} (h : a = b) : Ending.returned (.int k a) = .returned (.int k b) := by rw [h]

/-- A proposition as a Bool. -/
noncomputable def propB (p : Prop) : Bool := @decide p (Classical.propDecidable p)
theorem propB_true {p : Prop} (h : p) : propB p = true := @decide_eq_true p (Classical.propDecidable p) h
theorem propB_false {p : Prop} (h : ¬ p) : propB p = false := @decide_eq_false p (Classical.propDecidable p) h
theorem propB_iff {p : Prop} : propB p = true ↔ p := ⟨fun h => @of_decide_eq_true p (Classical.propDecidable p) h, propB_true⟩

/-- A slice of ints that reads as a list, nil let in; its cells lie below block B. -/
def Ints (w : World) (B : Nat) (A : Option Addr) (n : Nat) (xs : List Int) : Prop :=
  xs.length = n ∧ (0 < n → ∃ b off, A = some ⟨b, off, none⟩ ∧ b < B ∧ ∀ k x, xs[k]? = some x → w.cell? ⟨b, off + k, none⟩ = some (.int .i64 x))

theorem Ints.keep {w w' : World} {B n : Nat} {A : Option Addr} {xs : List Int} (h : Ints w B A n xs) (hk : ∀ p : Addr, p.block < B → w'.cell? p = w.cell? p) : Ints w' B A n xs :=
  ⟨h.1, fun hn => by
    obtain ⟨b, off, e, hb, hc⟩ := h.2 hn
    exact ⟨b, off, e, hb, fun k x hx => (hk _ hb).trans (hc k x hx)⟩⟩
theorem Ints.more {w : World} {B B' n : Nat} {A : Option Addr} {xs : List Int} (h : Ints w B A n xs) (hB : B ≤ B') : Ints w B' A n xs :=
  ⟨h.1, fun hn => by
    obtain ⟨b, off, e, hb, hc⟩ := h.2 hn
    exact ⟨b, off, e, by omega, hc⟩⟩
theorem Ints.below {w w' : World} {B C n : Nat} {A : Option Addr} {xs : List Int} (h : Ints w B A n xs) (hb : Below C w w') (hB : B ≤ C) : Ints w' B A n xs := h.keep fun _ hp => hb.cell (by omega)
theorem Ints.alloc {w : World} {B n : Nat} {A : Option Addr} {xs : List Int} (h : Ints w B A n xs) (hB : B ≤ w.heap.size) (o : Obj) : Ints (w.alloc o) B A n xs := h.keep fun p hp => World.cell?_alloc_lt w o p (by omega)
theorem Ints.at_ {w : World} {B n k : Nat} {A : Option Addr} {xs : List Int} (h : Ints w B A n xs) (hk : k < n) :
    ∃ b off, A = some ⟨b, off, none⟩ ∧ b < B ∧ w.cell? ⟨b, off + k, none⟩ = some (.int .i64 (xs[k]?.getD 0)) := by
  obtain ⟨b, off, e, hb, hc⟩ := h.2 (by omega)
  have hl : k < xs.length := by rw [h.1]; exact hk
  refine ⟨b, off, e, hb, ?_⟩
  rw [List.getElem?_eq_getElem hl]
  exact hc k _ (List.getElem?_eq_getElem hl)

/-- The cells of a box of four, however the world has grown since. -/
theorem box4 {w wr : World} {a b c d : Value} {T : TypeId} (h : Below (w.heap.size + 1) (w.alloc (.cells #[a, b, c, d] T)) wr) :
    wr.cell? ⟨w.heap.size, 0, none⟩ = some a ∧ wr.cell? ⟨w.heap.size, 1, none⟩ = some b ∧ wr.cell? ⟨w.heap.size, 2, none⟩ = some c ∧ wr.cell? ⟨w.heap.size, 3, none⟩ = some d ∧ w.heap.size < wr.heap.size := by
  have hs := h.size
  have e : (w.alloc (.cells #[a, b, c, d] T)).heap.size = w.heap.size + 1 := by simp
  have hn := heap_alloc_new w (.cells #[a, b, c, d] T)
  refine ⟨?_, ?_, ?_, ?_, by omega⟩ <;>
    exact (h.cell (by simp)).trans (cell_of_row _ _ _ _ _ (0, 0) hn)

theorem below_of_box {w wr : World} {o : Obj} (h : Below (w.heap.size + 1) (w.alloc o) wr) : Below w.heap.size w wr :=
  ((Below.refl _ _).alloc (Nat.le_refl _) o).trans (h.mono (by omega))
theorem below_box {w wr w1 : World} {o : Obj} (h : Below (w.heap.size + 1) (w.alloc o) wr) (h1 : Below wr.heap.size wr w1) (hs : w.heap.size < wr.heap.size) : Below w.heap.size w w1 :=
  (below_of_box h).trans (h1.mono (by omega))

/-- The cells of a box are the same behind a call that leaves all old memory alone. -/
theorem box4_next {W w1 : World} {g B : Nat} {a b c d : Value} (h : Below B W w1) (hg : g < B)
    (c0 : W.cell? ⟨g, 0, none⟩ = some a) (c1 : W.cell? ⟨g, 1, none⟩ = some b) (c2 : W.cell? ⟨g, 2, none⟩ = some c) (c3 : W.cell? ⟨g, 3, none⟩ = some d) :
    w1.cell? ⟨g, 0, none⟩ = some a ∧ w1.cell? ⟨g, 1, none⟩ = some b ∧ w1.cell? ⟨g, 2, none⟩ = some c ∧ w1.cell? ⟨g, 3, none⟩ = some d ∧ W.heap.size ≤ w1.heap.size :=
  ⟨(h.cell hg).trans c0, (h.cell hg).trans c1, (h.cell hg).trans c2, (h.cell hg).trans c3, h.size⟩
/-- The cells of a box just made. -/
theorem box4_new (w : World) (a b c d : Value) (T : TypeId) : (w.alloc (.cells #[a, b, c, d] T)).cell? ⟨w.heap.size, 0, none⟩ = some a ∧ (w.alloc (.cells #[a, b, c, d] T)).cell? ⟨w.heap.size, 1, none⟩ = some b ∧
    (w.alloc (.cells #[a, b, c, d] T)).cell? ⟨w.heap.size, 2, none⟩ = some c ∧ (w.alloc (.cells #[a, b, c, d] T)).cell? ⟨w.heap.size, 3, none⟩ = some d ∧ w.heap.size < (w.alloc (.cells #[a, b, c, d] T)).heap.size :=
  box4 (Below.refl _ _)

/-! A region that draws its order, whose operations read and whose callees read and make new blocks: one walk in the order of the text, over the class of the worlds that leave all old memory alone. -/
structure Ext (w : World) where
  to : World
  below : Below w.heap.size w to
instance (w : World) : Nonempty (Ext w) := ⟨⟨w, Below.refl _ _⟩⟩
def ext (w : World) (u : Ext w) : World := u.to
theorem ext_below (w : World) (u : Ext w) : Below w.heap.size w (ext w u) := u.below
theorem ext_lt {w : World} {p : Addr} (h : (w.cell? p).isSome = true) : p.block < w.heap.size := by
  obtain ⟨v, hv⟩ := Option.isSome_iff_exists.1 h
  exact block_lt_of_cell hv
@[go_sem] theorem cell?_ext (w : World) (u : Ext w) (p : Addr) (h : (w.cell? p).isSome = true) : (ext w u).cell? p = w.cell? p := (ext_below w u).cell (ext_lt h)
theorem Ints.ext {w : World} {B n : Nat} {A : Option Addr} {xs : List Int} (h : Ints w B A n xs) (hB : B ≤ w.heap.size) (u : Ext w) : Ints (ext w u) B A n xs := h.below (ext_below w u) hB
theorem ext_size (w : World) (u : Ext w) : w.heap.size ≤ (ext w u).heap.size := (ext_below w u).size
theorem calls_ext {P : Program} {f : FuncId} {args : Array Value} {w : World} {u : Ext w} {v : Value}
    (h : Calls P f args (ext w u) fun e w' => e = .returned v ∧ Below (ext w u).heap.size (ext w u) w') : Calls P f args (ext w u) fun e w'' => e = .returned v ∧ ∃ u' : Ext w, w'' = ext w u' :=
  h.mono fun _ _ ⟨he, hb⟩ => ⟨he, ⟨_, (ext_below w u).trans (hb.mono (ext_size w u))⟩, rfl⟩
theorem wpQuiet_post {P : Program} {ops : Array Oper} {C : World → Prop} {Q Q' : Act → Prop} : ∀ {l : List Oper} {a : Act}, wpQuiet P ops C Q l a → (∀ a, Q a → Q' a) → wpQuiet P ops C Q' l a
  | [], _, h, hq => hq _ h
  | o :: rest, a, h, hq => by
    unfold wpQuiet at h ⊢
    split
    · rename_i hw
      rw [if_pos hw] at h
      exact Oper.quiet_mono (fun _ h' => wpQuiet_post h' hq) h
    · rename_i hw
      rw [if_neg hw] at h
      exact wpQuiet_post h hq
theorem wp_region_ext {P : Program} {id : Nat} {Q : Exit → Act → World → Prop} {a : Act} {w : World} {l : List Oper} (hm : P.follows .mixedOrders = true) (hB : Region.lexB .any l.toArray = true)
    (h : wpQuiet P l.toArray (fun w' => ∃ u : Ext w, w' = ext w u) (fun a' => ∀ w1, Below w.heap.size w w1 → Q .normal a' w1) l a) : (Code.region id l.toArray true).wp P Q a w :=
  wp_region_quiet (C := fun w' => ∃ u : Ext w, w' = ext w u) hm hB ⟨⟨w.drew, (Below.refl _ _).drew⟩, rfl⟩ (by
    simp only
    refine wpQuiet_post h ?_
    rintro a' h' _ ⟨u, rfl⟩
    exact h' _ u.below)

end Go.Proofs.Ytlcpbdbdiahmjaa



/- The contracts of the smallest functions on rings. -/
namespace Go.Proofs.Ytlcpbdbdiahmjaa
open Go.RowKit

def inB (n a : Int) : Bool := decide (0 ≤ a ∧ a < n)
theorem inB_true {n a : Int} (h : 0 ≤ a ∧ a < n) : inB n a = true := decide_eq_true h
theorem inB_false {n a : Int} (h : ¬ (0 ≤ a ∧ a < n)) : inB n a = false := decide_eq_false h

theorem has_any (n o a : Int) (A B : Option Addr) (la ca lb cb : Nat) (w : World) :
    Calls Try.prog 72 #[.agg #[.int .i64 n, .int .i64 o, .slice A la ca, .slice B lb cb], .int .i64 a] w fun e w' => e = .returned (.bool (inB n a)) ∧ Below w.heap.size w w' := by
  by_cases h0 : 0 ≤ a
  · by_cases h1 : a < n
    · rw [inB_true ⟨h0, h1⟩]
      go_enter Try.func72, Try.ntmps72
      go_wp2
      go_ret
      exact ⟨rfl, (Below.refl _ _).alloc (Nat.le_refl _) _⟩
    · rw [inB_false (by omega)]
      go_enter Try.func72, Try.ntmps72
      go_wp2
      go_ret
      exact ⟨rfl, (Below.refl _ _).alloc (Nat.le_refl _) _⟩
  · rw [inB_false (by omega)]
    go_enter Try.func72, Try.ntmps72
    go_wp2
    go_ret
    exact ⟨rfl, (Below.refl _ _).alloc (Nat.le_refl _) _⟩

theorem row_nums {m a len cap : Nat} (hm : 1 ≤ m) (hm' : m ≤ 16) (h1 : a < m) (hl : len = m * m) (hc : len ≤ cap) : 0 ≤ ((a : Int) + 1) * m ∧ (a : Int) * m ≤ 256 ∧ ((a : Int) + 1) * m ≤ 256 ∧ ((a : Int) + 1) * m ≤ cap ∧ (a : Int) * m < ((a : Int) + 1) * m ∧ ¬ (((a : Int) + 1) * m).toNat = a * m ∧ (a + 1) * m - a * m = m := by
  have h2 : a * m ≤ 16 * 16 := Nat.mul_le_mul (by omega) hm'
  have h3 : (a + 1) * m ≤ 16 * 16 := Nat.mul_le_mul (by omega) hm'
  have h4 : (a + 1) * m ≤ m * m := Nat.mul_le_mul_right _ h1
  have e1 : (a : Int) * m = (a * m : Nat) := by simp
  have e2 : ((a : Int) + 1) * m = ((a * m + m : Nat) : Int) := by rw [Int.add_mul]; simp
  have e3 : (a + 1) * m = a * m + m := Nat.succ_mul _ _
  rw [e1, e2]
  refine ⟨?_, ?_, ?_, ?_, ?_, ?_, ?_⟩ <;> omega

theorem row_any (m : Nat) (o : Int) (A B : Option Addr) (la ca lb cb : Nat) (b off len cap a : Nat) (w : World) (hm : 1 ≤ m) (hm' : m ≤ 16) (h1 : a < m) (hl : len = m * m) (hc : len ≤ cap) :
    Calls Try.prog 108 #[.agg #[.int .i64 m, .int .i64 o, .slice A la ca, .slice B lb cb], .slice (some ⟨b, off, none⟩) len cap, .int .i64 a] w fun e w' =>
      e = .returned (.slice (some ⟨b, off + a * m, none⟩) m m) ∧ Below w.heap.size w w' := by
  obtain ⟨g0, g1, g2, g4, g5, g6, e⟩ := row_nums hm hm' h1 hl hc
  have H1 := Lib.hid e
  clear e hl
  go_enter Try.func108, Try.ntmps108
  go_wp2
  go_quiet (fail)
  go_wp2
  go_ret
  exact ⟨ret_slice H1.out H1.out, below_drewN ((Below.refl _ _).alloc (Nat.le_refl _) _) _⟩

def allB (n : Int) (xs : List Int) : Bool := decide (∀ k, k < xs.length → inB n (xs[k]?.getD 0) = true)
def UpTo (n : Int) (xs : List Int) (k : Nat) : Prop := ∀ j, j < k → inB n (xs[j]?.getD 0) = true

theorem allB_true {n : Int} {xs : List Int} (h : UpTo n xs xs.length) : allB n xs = true := decide_eq_true h
theorem allB_false {n : Int} {xs : List Int} {k : Nat} (hk : k < xs.length) (h : inB n (xs[k]?.getD 0) = false) : allB n xs = false := decide_eq_false fun g => by
  have := g k hk
  rw [h] at this
  cases this
theorem upTo_succ {n : Int} {xs : List Int} {k : Nat} (h : UpTo n xs k) (hk : inB n (xs[k]?.getD 0) = true) : UpTo n xs (k + 1) := fun j hj => by
  rcases Nat.lt_succ_iff_lt_or_eq.1 hj with h1 | rfl
  · exact h j h1
  · exact hk
theorem upTo_le {n : Int} {xs : List Int} {k l : Nat} (h : UpTo n xs k) (hl : l ≤ k) : UpTo n xs l := fun j hj => h j (by omega)

theorem hasAll_any (n o : Int) (A B C : Option Addr) (la ca lb cb len cap : Nat) (xs : List Int) (w : World) (hx : Ints w w.heap.size C len xs) (hl : len ≤ 9223372036854775807) :
    Calls Try.prog 119 #[.agg #[.int .i64 n, .int .i64 o, .slice A la ca, .slice B lb cb], .slice C len cap] w fun e w' => e = .returned (.bool (allB n xs)) ∧ Below w.heap.size w w' := by
  have HX := Lib.hid hx
  clear hx
  go_enter Try.func119, Try.ntmps119
  go_wp2
  go_loopw [9] (fun i wr => ∃ k : Nat, k ≤ len ∧ i = .int .i64 k ∧ UpTo n xs k ∧ Below (w.heap.size + 1) (w.alloc (.cells #[.int .i64 n, .int .i64 o, .slice A la ca, .slice B lb cb] 25)) wr)
    (fun i _ => len - (intOf i).toNat)
  case atStart => exact ⟨0, Nat.zero_le _, rfl, fun j hj => absurd hj (by omega), Below.refl _ _⟩
  case round =>
    obtain ⟨k, hk, rfl, hup, hb⟩ := hrel
    have HU := Lib.hid hup
    clear hup
    obtain ⟨c0, c1, c2, c3, hs⟩ := box4 hb
    by_cases hlt : k < len
    · obtain ⟨b, off, rfl, hbb, hc⟩ := ((HX.out.alloc (Nat.le_refl _) _).below hb (by omega)).at_ hlt
      have HB := Lib.hid hb
      clear hb
      cases hq : inB n (xs[k]?.getD 0)
      · go_wp2_with (go_at_call 72; refine (has_any _ _ _ _ _ _ _ _ _ _).mono ?_; rintro e w1 ⟨rfl, hb1⟩)
        go_ret
        refine ⟨ret_bool ?_, ?_⟩
        · exact (allB_false (by rw [HX.out.1]; exact hlt) hq).symm
        · exact below_box HB.out hb1 hs
      · go_wp2_with (go_at_call 72; refine (has_any _ _ _ _ _ _ _ _ _ _).mono ?_; rintro e w1 ⟨rfl, hb1⟩)
        go_roundw
        case rel => exact ⟨k + 1, by omega, by go_num, upTo_succ HU.out hq, HB.out.trans (hb1.mono (by omega))⟩
        case measure => simp [intOf]; omega
    · have hb1 : Below w.heap.size w wr := below_of_box hb
      go_wp2
      go_ret
      refine ⟨ret_bool ?_, hb1⟩
      exact (allB_true (by rw [HX.out.1]; exact upTo_le HU.out (by omega))).symm
end Go.Proofs.Ytlcpbdbdiahmjaa



/- The contract of fits: the bounds of a ring's tables. -/
namespace Go.Proofs.Ytlcpbdbdiahmjaa
open Go.RowKit

theorem shape_any (n o : Int) (A B : Option Addr) (la ca lb cb : Nat) (w : World) :
    Calls Try.prog 118 #[.agg #[.int .i64 n, .int .i64 o, .slice A la ca, .slice B lb cb]] w fun e w' => e = .returned (.agg #[.int .i64 n, .int .i64 o, .int .i64 la, .int .i64 lb]) ∧ Below w.heap.size w w' := by
  go_enter Try.func118, Try.ntmps118
  go_wp2
  refine bodyPost_ret (v := .agg #[.int .i64 n, .int .i64 o, .int .i64 la, .int .i64 lb]) (by simp [results, Try.results118, go_sem]) rfl ⟨rfl, ?_⟩
  exact ((Below.refl _ _).alloc (Nat.le_refl _) _).alloc (by simp) _

def eq4 (a b c d a' b' c' d' : Int) : Bool := a == a' && (b == b' && (c == c' && d == d'))
theorem eq4_true {a b c d a' b' c' d' : Int} (h : a = a' ∧ b = b' ∧ c = c' ∧ d = d') : eq4 a b c d a' b' c' d' = true := by obtain ⟨rfl, rfl, rfl, rfl⟩ := h; simp [eq4]
theorem eq4_false {a b c d a' b' c' d' : Int} (h : ¬ (a = a' ∧ b = b' ∧ c = c' ∧ d = d')) : eq4 a b c d a' b' c' d' = false := by
  unfold eq4
  rw [Bool.eq_false_iff]
  intro g
  simp only [Bool.and_eq_true, beq_iff_eq] at g
  exact h g
theorem eq_shape (w : World) (a b c d a' b' c' d' : Int) : (Op.equalIn 10000 107 (.agg #[.int .i64 a, .int .i64 b, .int .i64 c, .int .i64 d]) (.agg #[.int .i64 a', .int .i64 b', .int .i64 c', .int .i64 d'])).run Try.prog w = .ok (eq4 a b c d a' b' c' d') w := by
  obtain ⟨i0, hi, _⟩ := info_parts (P := Try.prog) (show (Try.prog.info? 3).map (fun i => (i.zero, i.size, i.bytes)) = some (some (.int .i64 0), 1, 8) by kernel_rfl)
  have h := run_equalIn_array (P := Try.prog) w 9999 #[.int .i64 a, .int .i64 b, .int .i64 c, .int .i64 d] #[.int .i64 a', .int .i64 b', .int .i64 c', .int .i64 d'] Try.underlying107 hi
  have hc : Try.prog.cellsOf 3 = 1 := by kernel_rfl
  rw [hc] at h
  refine h.trans ?_
  simp [go_sem, Op.eqItems, List.range, List.range.loop, eq4]
  by_cases h1 : a = a' <;> by_cases h2 : b = b' <;> by_cases h3 : c = c' <;> by_cases h4 : d = d' <;> simp [h1, h2, h3, h4]

def fitsB (n o : Int) (S T : List Int) : Bool := decide (1 ≤ n) && (decide (n ≤ 16) && (inB n o && (eq4 n o S.length T.length n o (n * n) (n * n) && (allB n S && allB n T))))

set_option maxHeartbeats 400000 in
theorem fits_low (n o : Int) (A B : Option Addr) (la ca lb cb : Nat) (w : World) (h : n < 1 ∨ 16 < n) :
    Calls Try.prog 101 #[.agg #[.int .i64 n, .int .i64 o, .slice A la ca, .slice B lb cb]] w fun e w' => e = .returned (.bool false) ∧ Below w.heap.size w w' := by
  by_cases h1 : n < 1
  · go_enter Try.func101, Try.ntmps101
    go_wp2
    go_ret
    exact ⟨rfl, (Below.refl _ _).alloc (Nat.le_refl _) _⟩
  · have h2 : 16 < n := by omega
    clear h
    go_enter Try.func101, Try.ntmps101
    go_wp2
    go_ret
    exact ⟨rfl, (Below.refl _ _).alloc (Nat.le_refl _) _⟩
set_option maxHeartbeats 400000 in
theorem fits_one (n o : Int) (A B : Option Addr) (la ca lb cb : Nat) (w : World) (h1 : 1 ≤ n) (h2 : n ≤ 16) (ho : inB n o = false) :
    Calls Try.prog 101 #[.agg #[.int .i64 n, .int .i64 o, .slice A la ca, .slice B lb cb]] w fun e w' => e = .returned (.bool false) ∧ Below w.heap.size w w' := by
  go_enter Try.func101, Try.ntmps101
  go_wp2_with (go_at_call 72; refine (has_any _ _ _ _ _ _ _ _ _ _).mono ?_; rintro e w1 ⟨rfl, hb1⟩)
  go_ret
  exact ⟨rfl, ((Below.refl _ _).alloc (Nat.le_refl _) _).trans (hb1.mono (by simp))⟩

theorem sq_le {m : Nat} (hm' : m ≤ 16) : (m : Int) * m ≤ 256 ∧ 0 ≤ (m : Int) * m := by
  have h2 : m * m ≤ 16 * 16 := Nat.mul_le_mul hm' hm'
  have e1 : (m : Int) * m = (m * m : Nat) := by simp
  rw [e1]; omega

attribute [local go_sem] eq_shape
attribute [local go_sem ↓] Go.wp_at_zero Go.wp_at_succ

set_option maxHeartbeats 1000000 in
theorem fits_len (m : Nat) (o : Int) (A B : Option Addr) (la ca lb cb : Nat) (w : World) (h1 : 1 ≤ m) (h2 : m ≤ 16) (ho : inB m o = true)
    (hl : eq4 m o la lb m o (m * m) (m * m) = false) :
    Calls Try.prog 101 #[.agg #[.int .i64 m, .int .i64 o, .slice A la ca, .slice B lb cb]] w fun e w' => e = .returned (.bool false) ∧ Below w.heap.size w w' := by
  obtain ⟨s1, s2⟩ := sq_le h2
  go_enter Try.func101, Try.ntmps101
  go_wp2_with (go_at_call 72; refine (has_any _ _ _ _ _ _ _ _ _ _).mono ?_; rintro e w1 ⟨rfl, hb1⟩; obtain ⟨c0, c1, c2, c3, hs⟩ := box4_next hb1 (by simp) (box4_new _ _ _ _ _ _).1 (box4_new _ _ _ _ _ _).2.1 (box4_new _ _ _ _ _ _).2.2.1 (box4_new _ _ _ _ _ _).2.2.2.1)
  have HB := Lib.hid hb1
  clear hb1
  refine wp_region_ext (by kernel_rfl) (by kernel_rfl) ?_
  repeat (go_big_quiet_step ((go_at_call 118; refine calls_ext (shape_any _ _ _ _ _ _ _ _ _))))
  refine wpQuiet_nil ?_
  intro w2 hb2
  go_wp2
  go_ret
  exact ⟨rfl, (below_of_box (by simpa using HB.out)).trans (hb2.mono (by simp at hs; omega))⟩

set_option maxHeartbeats 1000000 in
theorem fits_all (m : Nat) (o : Int) (A B : Option Addr) (la ca lb cb : Nat) (S T : List Int) (w : World) (h1 : 1 ≤ m) (h2 : m ≤ 16) (ho : inB m o = true)
    (hl : eq4 m o la lb m o (m * m) (m * m) = true) (hS : Ints w w.heap.size A la S) (hT : Ints w w.heap.size B lb T) (hla : la ≤ 9223372036854775807) (hlb : lb ≤ 9223372036854775807) :
    Calls Try.prog 101 #[.agg #[.int .i64 m, .int .i64 o, .slice A la ca, .slice B lb cb]] w fun e w' => e = .returned (.bool (allB m S && allB m T)) ∧ Below w.heap.size w w' := by
  obtain ⟨s1, s2⟩ := sq_le h2
  have HS := Lib.hid hS
  have HT := Lib.hid hT
  clear hS hT
  go_enter Try.func101, Try.ntmps101
  go_wp2_with (go_at_call 72; refine (has_any _ _ _ _ _ _ _ _ _ _).mono ?_; rintro e w1 ⟨rfl, hb1⟩; obtain ⟨c0, c1, c2, c3, hs⟩ := box4_next hb1 (by simp) (box4_new _ _ _ _ _ _).1 (box4_new _ _ _ _ _ _).2.1 (box4_new _ _ _ _ _ _).2.2.1 (box4_new _ _ _ _ _ _).2.2.2.1)
  have hB : Below w.heap.size w w1 := below_of_box (by simpa using hb1)
  have HS1 := Lib.hid ((HS.out.below hB (Nat.le_refl _)).more hB.size)
  have HT1 := Lib.hid ((HT.out.below hB (Nat.le_refl _)).more hB.size)
  have HB := Lib.hid hB
  clear hb1 hB
  cases hs1 : allB m S
  · refine wp_region_ext (by kernel_rfl) (by kernel_rfl) ?_
    repeat (go_big_quiet_step ((first | (go_at_call 118; refine calls_ext (shape_any _ _ _ _ _ _ _ _ _)) | (go_at_call 119; refine calls_ext (hasAll_any _ _ _ _ _ _ _ _ _ _ _ S _ ((HS1.out.ext (Nat.le_refl _) _).more (ext_size _ _)) hla)))))
    refine wpQuiet_nil ?_
    intro w2 hb2
    go_wp2
    go_ret
    exact ⟨ret_bool (by rw [hs1]; rfl), HB.out.trans (hb2.mono HB.out.size)⟩
  · refine wp_region_ext (by kernel_rfl) (by kernel_rfl) ?_
    repeat (go_big_quiet_step ((first | (go_at_call 118; refine calls_ext (shape_any _ _ _ _ _ _ _ _ _)) | (go_at_call 119; refine calls_ext (hasAll_any _ _ _ _ _ _ _ _ _ _ _ S _ ((HS1.out.ext (Nat.le_refl _) _).more (ext_size _ _)) hla)) | (go_at_call 119; refine calls_ext (hasAll_any _ _ _ _ _ _ _ _ _ _ _ T _ ((HT1.out.ext (Nat.le_refl _) _).more (ext_size _ _)) hlb)))))
    refine wpQuiet_nil ?_
    intro w2 hb2
    go_wp2
    go_ret
    exact ⟨ret_bool (by rw [hs1]; rfl), HB.out.trans (hb2.mono HB.out.size)⟩

/-- The bounds of a ring's tables. -/
theorem fits_any (n o : Int) (A B : Option Addr) (la ca lb cb : Nat) (S T : List Int) (w : World)
    (hS : Ints w w.heap.size A la S) (hT : Ints w w.heap.size B lb T) (hla : la ≤ 9223372036854775807) (hlb : lb ≤ 9223372036854775807) :
    Calls Try.prog 101 #[.agg #[.int .i64 n, .int .i64 o, .slice A la ca, .slice B lb cb]] w fun e w' => e = .returned (.bool (fitsB n o S T)) ∧ Below w.heap.size w w' := by
  have hSl := hS.1
  have hTl := hT.1
  unfold fitsB
  by_cases h1 : 1 ≤ n
  · by_cases h2 : n ≤ 16
    · obtain ⟨m, rfl⟩ := Int.eq_ofNat_of_zero_le (show 0 ≤ n by omega)
      rw [decide_eq_true h1, decide_eq_true h2, Bool.true_and, Bool.true_and, hSl, hTl]
      cases ho : inB m o
      · exact fits_one _ _ _ _ _ _ _ _ _ h1 h2 ho
      · cases hl : eq4 m o la lb m o (m * m) (m * m)
        · exact fits_len _ _ _ _ _ _ _ _ _ (by omega) (by omega) ho hl
        · exact fits_all _ _ _ _ _ _ _ _ _ _ _ (by omega) (by omega) ho hl hS hT hla hlb
    · rw [decide_eq_true h1, decide_eq_false h2]
      exact fits_low _ _ _ _ _ _ _ _ _ (.inr (by omega))
  · rw [decide_eq_false h1]
    exact fits_low _ _ _ _ _ _ _ _ _ (.inl (by omega))

end Go.Proofs.Ytlcpbdbdiahmjaa



/- The contract of operationHolds: the laws of a table. -/
namespace Go.Proofs.Ytlcpbdbdiahmjaa
open Go.RowKit

/-- A full table of a ring of m elements, row by row; its cells lie below block B. -/
def Tab (w : World) (B b off m : Nat) (T : Nat → Nat) : Prop := b < B ∧ ∀ k, k < m * m → w.cell? ⟨b, off + k, none⟩ = some (.int .i64 (T k)) ∧ T k < m
theorem idx_lt {m a e : Nat} (ha : a < m) (he : e < m) : a * m + e < m * m := by
  have : (a + 1) * m ≤ m * m := Nat.mul_le_mul_right _ ha
  have : (a + 1) * m = a * m + m := Nat.succ_mul _ _
  omega
theorem Tab.at_ {w : World} {B b off m a e : Nat} {T : Nat → Nat} (h : Tab w B b off m T) (ha : a < m) (he : e < m) : w.cell? ⟨b, off + a * m + e, none⟩ = some (.int .i64 (T (a * m + e))) := by
  rw [Nat.add_assoc]; exact (h.2 _ (idx_lt ha he)).1
theorem Tab.lt {w : World} {B b off m a e : Nat} {T : Nat → Nat} (h : Tab w B b off m T) (ha : a < m) (he : e < m) : T (a * m + e) < m := (h.2 _ (idx_lt ha he)).2
theorem Tab.below {w w' : World} {B C b off m : Nat} {T : Nat → Nat} (h : Tab w B b off m T) (hb : Below C w w') (hB : B ≤ C) : Tab w' B b off m T :=
  ⟨h.1, fun k hk => ⟨(hb.cell (by have := h.1; simp; omega)).trans (h.2 k hk).1, (h.2 k hk).2⟩⟩

def Law3 (m : Nat) (T : Nat → Nat) (a b c : Nat) : Prop := T (T (a * m + b) * m + c) = T (a * m + T (b * m + c))
def Law2 (m : Nat) (T : Nat → Nat) (a b : Nat) : Prop := T (a * m + b) = T (b * m + a) ∧ ∀ c, c < m → Law3 m T a b c
def Law1 (m : Nat) (T : Nat → Nat) (e a : Nat) : Prop := T (a * m + e) = a ∧ ∀ b, b < m → Law2 m T a b
def OpLaw (m : Nat) (T : Nat → Nat) (e : Nat) : Prop := ∀ a, a < m → Law1 m T e a
def Upto1 (m : Nat) (T : Nat → Nat) (e a : Nat) : Prop := ∀ j, j < a → Law1 m T e j
def Upto2 (m : Nat) (T : Nat → Nat) (a b : Nat) : Prop := ∀ j, j < b → Law2 m T a j
def Upto3 (m : Nat) (T : Nat → Nat) (a b c : Nat) : Prop := ∀ j, j < c → Law3 m T a b j
theorem forall_succ {P : Nat → Prop} {k : Nat} (h : ∀ j, j < k → P j) (hk : P k) : ∀ j, j < k + 1 → P j := fun j hj => by
  rcases Nat.lt_succ_iff_lt_or_eq.1 hj with h1 | rfl
  · exact h j h1
  · exact hk
noncomputable def opB (m : Nat) (T : Nat → Nat) (e : Nat) : Bool := propB (OpLaw m T e)

theorem opB_true {m : Nat} {T : Nat → Nat} {e : Nat} (h : OpLaw m T e) : opB m T e = true := propB_true h
theorem opB_false {m : Nat} {T : Nat → Nat} {e : Nat} (h : ¬ OpLaw m T e) : opB m T e = false := propB_false h

set_option maxHeartbeats 1000000 in
theorem operationHolds_any (m e : Nat) (o : Int) (A B : Option Addr) (la ca lb cb : Nat) (b off len cap : Nat) (T : Nat → Nat) (w : World) (hm : 1 ≤ m) (hm' : m ≤ 16) (he : e < m) (hl : len = m * m) (hc : len ≤ cap) (hT : Tab w w.heap.size b off m T) :
    Calls Try.prog 102 #[.agg #[.int .i64 m, .int .i64 o, .slice A la ca, .slice B lb cb], .slice (some ⟨b, off, none⟩) len cap, .int .i64 e] w fun e' w' =>
      e' = .returned (.bool (opB m T e)) ∧ Below w.heap.size w w' := by
  have HT := Lib.hid hT
  have HL := Lib.hid hl
  clear hT hl
  go_enter Try.func102, Try.ntmps102
  go_wp2
  go_step3
  go_wp2
  go_step3
  go_wp2
  obtain ⟨W, hW⟩ : ∃ W, w.alloc (.cells #[.int .i64 m, .int .i64 o, .slice A la ca, .slice B lb cb] 25) = W := ⟨_, rfl⟩
  have HT0 : Hid (Tab W w.heap.size b off m T) := by
    subst hW
    exact HT.out.below ((Below.refl w.heap.size w).alloc (Nat.le_refl _) _) (Nat.le_refl _)
  obtain ⟨c0, c1, c2, c3, hs⟩ := box4_new w (.int .i64 m) (.int .i64 o) (.slice A la ca) (.slice B lb cb) 25
  have hbw : Below w.heap.size w W := by
    subst hW
    exact (Below.refl w.heap.size w).alloc (Nat.le_refl _) _
  rw [hW] at c0 c1 c2 c3 hs ⊢
  have HB := Lib.hid hbw
  clear hW hbw
  go_loopg [7, 16] m (fun g h i wr => ∃ a : Nat, a ≤ m ∧ m ≤ a + g ∧ h = .bool true ∧ i = .int .i64 a ∧ Upto1 m T e a ∧ Below (w.heap.size + 1) W wr)
  case atStart => exact ⟨0, Nat.zero_le _, by omega, rfl, rfl, fun j hj => absurd hj (by omega), Below.refl _ _⟩
  case round =>
    obtain ⟨a, ha, hg, rfl, rfl, hup, hb⟩ := hrel
    have HU := Lib.hid hup
    clear hup
    obtain ⟨d0, d1, d2, d3, hs1⟩ := box4_next hb (Nat.lt_succ_self _) c0 c1 c2 c3
    have HB1 := Lib.hid hb
    clear hb
    by_cases hlt : a < m
    · by_cases h1 : T (a * m + e) = a
      · have H1 := Lib.hid h1
        have h1a : T (a * m + e) ≤ a := by omega
        have h1b : a ≤ T (a * m + e) := by omega
        have h1c : (((T (a * m + e) : Nat) : Int) != (a : Int)) = false := by rw [bne_eq_false_iff_eq]; omega
        clear h1
        go_wp2_with (go_at_call 108; refine (row_any _ _ _ _ _ _ _ _ _ _ _ _ _ _ hm hm' hlt HL.out hc).mono ?_; rintro e1 w1 ⟨rfl, hb1⟩; obtain ⟨f0, f1, f2, f3, hs2⟩ := box4_next hb1 (Nat.lt_of_lt_of_le hs hs1) d0 d1 d2 d3; have ht1 := ((HT0.out.below HB1.out (by omega)).below hb1 (by omega)).at_ hlt he)
        have HB2 := Lib.hid (HB1.out.trans (hb1.mono (by omega)))
        clear hb1 ht1
        obtain ⟨g1, hg1⟩ : ∃ g1 : Nat, g1 = gk := ⟨_, rfl⟩
        go_loopg [7, 31] m (fun g h i wr => ∃ c : Nat, c ≤ m ∧ m ≤ c + g ∧ h = .bool true ∧ i = .int .i64 c ∧ Upto2 m T a c ∧ Below w1.heap.size w1 wr)
        case atStart => exact ⟨0, Nat.zero_le _, by omega, rfl, rfl, fun j hj => absurd hj (by omega), Below.refl _ _⟩
        case round =>
          obtain ⟨c, hcm, hgc, rfl, rfl, hup2, hb2⟩ := hrel
          obtain ⟨k0, k1, k2, k3, hs3⟩ := box4_next hb2 (Nat.lt_of_lt_of_le (Nat.lt_of_lt_of_le hs hs1) hs2) f0 f1 f2 f3
          have HB3 := Lib.hid (HB2.out.trans (hb2.mono (by omega)))
          have HU2 := Lib.hid hup2
          have HB32 := Lib.hid hb2
          clear hb2 hup2
          by_cases hlt2 : c < m
          · by_cases h2 : T (a * m + c) = T (c * m + a)
            · have H2 := Lib.hid h2
              have h2a : T (a * m + c) ≤ T (c * m + a) := by omega
              have h2b : T (c * m + a) ≤ T (a * m + c) := by omega
              have hT1 : T (a * m + c) < m := HT.out.lt hlt hlt2
              have h2c : (((T (a * m + c) : Nat) : Int) != ((T (c * m + a) : Nat) : Int)) = false := by rw [bne_eq_false_iff_eq]; omega
              clear h2
              go_wp2_with (go_at_call 108; refine (row_any _ _ _ _ _ _ _ _ _ _ _ _ _ _ hm hm' hlt2 HL.out hc).mono ?_; rintro e2 w2 ⟨rfl, hb3⟩; obtain ⟨l0, l1, l2, l3, hs4⟩ := box4_next hb3 (by omega) k0 k1 k2 k3; have ht1 := ((HT0.out.below HB3.out (by omega)).below hb3 (by omega)).at_ hlt hlt2; have ht2 := ((HT0.out.below HB3.out (by omega)).below hb3 (by omega)).at_ hlt2 hlt)
              go_quiet (fail)
              go_wp2
              have HB4 := Lib.hid (below_drewN (HB3.out.trans (hb3.mono (by omega))) nq)
              have hb3' := Lib.hid hb3
              clear hb3
              refine wp_region_ext (by kernel_rfl) (by kernel_rfl) ?_
              repeat (go_big_quiet_step ((go_at_call 108; refine calls_ext (row_any _ _ _ _ _ _ _ _ _ _ _ _ _ _ hm hm' hT1 HL.out hc))))
              refine wpQuiet_nil ?_
              intro w3 hb4
              obtain ⟨p0, p1, p2, p3, hs5⟩ := box4_next hb4 (by simp; omega) (w1 := w3) l0 l1 l2 l3
              have HB5 := Lib.hid (HB4.out.trans (hb4.mono (by simp; omega)))
              have HB52 := Lib.hid ((below_drewN (HB32.out.trans (hb3'.out.mono (by omega))) nq).trans (hb4.mono (by simp; omega)))
              clear ht1 ht2 hb4
              go_wp2
              obtain ⟨g2, hg2⟩ : ∃ g2 : Nat, g2 = gk := ⟨_, rfl⟩
              go_loopg [7, 56] m (fun g h i wr => ∃ d : Nat, d ≤ m ∧ m ≤ d + g ∧ h = .bool true ∧ i = .int .i64 d ∧ Upto3 m T a c d ∧ Below w3.heap.size w3 wr)
              case atStart => exact ⟨0, Nat.zero_le _, by omega, rfl, rfl, fun j hj => absurd hj (by omega), Below.refl _ _⟩
              case round =>
                obtain ⟨d, hdm, hgd, rfl, rfl, hup3, hb5⟩ := hrel
                have HB6 := Lib.hid (HB5.out.trans (hb5.mono (by simp at hs5; omega)))
                have HU3 := Lib.hid hup3
                have HB7 := Lib.hid hb5
                have HB62 := Lib.hid (HB52.out.trans (hb5.mono (by simp at hs5; omega)))
                obtain ⟨q0, q1, q2, q3, hs6⟩ := box4_next hb5 (by simp at hs5; omega) p0 p1 p2 p3
                clear hb5 hup3
                by_cases hlt3 : d < m
                · have hT2 : T (c * m + d) < m := HT.out.lt hlt2 hlt3
                  have u1 := ((HT0.out.below HB6.out (by omega))).at_ hT1 hlt3
                  have u2 := ((HT0.out.below HB6.out (by omega))).at_ hlt2 hlt3
                  have u3 := ((HT0.out.below HB6.out (by omega))).at_ hlt hT2
                  by_cases h3 : T (T (a * m + c) * m + d) = T (a * m + T (c * m + d))
                  · have H3 := Lib.hid h3
                    have h3a : T (T (a * m + c) * m + d) ≤ T (a * m + T (c * m + d)) := by omega
                    have h3b : T (a * m + T (c * m + d)) ≤ T (T (a * m + c) * m + d) := by omega
                    clear h3
                    go_wp2
                    go_quiet (fail)
                    go_wp2
                    go_roundg (m - (d + 1))
                    case measure => omega
                    case rel => exact ⟨d + 1, by omega, by omega, rfl, by go_num, forall_succ HU3.out H3.out, below_drewN HB7.out _⟩
                  · go_wp2
                    go_quiet (fail)
                    go_wp2
                    rw [Exit.noGoto_ret]
                    go_ret
                    exact ⟨ret_bool (opB_false fun g => h3 (((g a hlt).2 c hlt2).2 d hlt3)).symm, below_drewN (HB.out.trans (HB6.out.mono (by omega))) _⟩
                · go_wp2
                  go_roundg (m - (c + 1))
                  case measure => omega
                  case rel => exact ⟨c + 1, by omega, by omega, rfl, by go_num, forall_succ HU2.out ⟨H2.out, fun j hj => HU3.out j (by omega)⟩, HB62.out⟩
            · go_wp2_with (go_at_call 108; refine (row_any _ _ _ _ _ _ _ _ _ _ _ _ _ _ hm hm' hlt2 HL.out hc).mono ?_; rintro e2 w2 ⟨rfl, hb3⟩; obtain ⟨l0, l1, l2, l3, hs4⟩ := box4_next hb3 (by omega) k0 k1 k2 k3; have ht1 := ((HT0.out.below HB3.out (by omega)).below hb3 (by omega)).at_ hlt hlt2; have ht2 := ((HT0.out.below HB3.out (by omega)).below hb3 (by omega)).at_ hlt2 hlt)
              go_quiet (fail)
              go_wp2
              rw [Exit.noGoto_ret]
              go_ret
              exact ⟨ret_bool (opB_false fun g => h2 ((g a hlt).2 c hlt2).1).symm, below_drewN (HB.out.trans ((HB3.out.mono (by omega)).trans (hb3.mono (by omega)))) _⟩
          · go_wp2
            go_roundg (m - (a + 1))
            case measure => omega
            case rel => exact ⟨a + 1, by omega, by omega, rfl, by go_num, forall_succ HU.out ⟨H1.out, fun j hj => HU2.out j (by omega)⟩, HB3.out⟩
      · go_wp2_with (go_at_call 108; refine (row_any _ _ _ _ _ _ _ _ _ _ _ _ _ _ hm hm' hlt HL.out hc).mono ?_; rintro e1 w1 ⟨rfl, hb1⟩; obtain ⟨f0, f1, f2, f3, hs2⟩ := box4_next hb1 (Nat.lt_of_lt_of_le hs hs1) d0 d1 d2 d3; have ht1 := ((HT0.out.below HB1.out (by omega)).below hb1 (by omega)).at_ hlt he)
        rw [Exit.noGoto_ret]
        go_ret
        exact ⟨ret_bool (opB_false fun g => h1 (g a hlt).1).symm, (HB.out.trans (HB1.out.mono (by omega))).trans (hb1.mono (by omega))⟩
    · go_wp2
      rw [Exit.noGoto_ret]
      go_ret
      exact ⟨ret_bool (opB_true fun j hj => HU.out j (by omega)).symm, HB.out.trans (HB1.out.mono (by omega))⟩

end Go.Proofs.Ytlcpbdbdiahmjaa



/- Contracts: the library's Index and Contains at lists of ints; negativesExist. -/
namespace Go.Proofs.Ytlcpbdbdiahmjaa
open Go.RowKit

/-- The place of a number in a list, or -1. -/
def idx (xs : List Int) (v : Int) : Int := if xs.findIdx (· == v) < xs.length then xs.findIdx (· == v) else -1
def Misses (xs : List Int) (v : Int) (k : Nat) : Prop := ∀ j, j < k → ¬ xs[j]?.getD 0 = v
theorem idx_hit {xs : List Int} {v : Int} {k : Nat} (hk : k < xs.length) (h : xs[k]?.getD 0 = v) (hm : Misses xs v k) : idx xs v = k := by
  have e : xs.findIdx (· == v) = k := by
    rw [List.findIdx_eq hk]
    rw [List.getElem?_eq_getElem hk] at h
    refine ⟨by simpa using h, fun j hj => ?_⟩
    have h2 := hm j hj
    rw [List.getElem?_eq_getElem (by omega)] at h2
    simpa using h2
  unfold idx
  rw [e, if_pos hk]
theorem idx_miss {xs : List Int} {v : Int} (hm : Misses xs v xs.length) : idx xs v = -1 := by
  unfold idx
  rw [if_neg]
  intro h
  have h1 := List.findIdx_getElem (w := h)
  have h2 := hm _ h
  rw [List.getElem?_eq_getElem h] at h2
  exact h2 (by simpa using h1)
theorem idx_bounds (xs : List Int) (v : Int) : -1 ≤ idx xs v ∧ idx xs v < (xs.length : Int) + 1 := by
  unfold idx; split <;> omega
/-- A list has a number. -/
theorem idx_nonneg {xs : List Int} {v : Int} : 0 ≤ idx xs v ↔ v ∈ xs := by
  unfold idx
  constructor
  · intro h
    split at h
    · rename_i hl
      have h1 := List.findIdx_getElem (w := hl)
      have h2 : xs[xs.findIdx (· == v)] = v := by simpa using h1
      rw [← h2]; exact List.getElem_mem _
    · omega
  · intro h
    have : xs.findIdx (· == v) < xs.length := List.findIdx_lt_length_of_exists ⟨v, h, by simp⟩
    rw [if_pos this]; omega

set_option maxHeartbeats 400000 in
theorem index_any (C : Option Addr) (len cap : Nat) (xs : List Int) (v : Int) (w : World) (B : Nat) (hx : Ints w B C len xs) (hl : len ≤ 9223372036854775807) :
    Calls Try.prog 120 #[.slice C len cap, .int .i64 v] w fun e w' => e = .returned (.int .i64 (idx xs v)) ∧ w = w' := by
  have HX := Lib.hid hx
  clear hx
  go_enter Try.func120, Try.ntmps120
  go_wp2
  go_loop [8] (fun i => ∃ k : Nat, k ≤ len ∧ i = .int .i64 k ∧ Misses xs v k) (fun i => len - (intOf i).toNat)
  case atStart => exact ⟨0, Nat.zero_le _, rfl, fun j hj => absurd hj (by omega)⟩
  case round =>
    obtain ⟨k, hk, rfl, hup⟩ := hrel
    have HU := Lib.hid hup
    clear hup
    by_cases hlt : k < len
    · obtain ⟨b, off, rfl, hbb, hc⟩ := HX.out.at_ hlt
      by_cases hv : xs[k]?.getD 0 = v
      · have HV := Lib.hid hv
        have ht : (v == xs[k]?.getD 0) = true := by rw [beq_iff_eq]; exact hv.symm
        clear hv
        go_wp2
        go_ret
        exact ⟨ret_int (idx_hit (by rw [HX.out.1]; exact hlt) HV.out HU.out).symm, rfl⟩
      · have HV := Lib.hid hv
        have ht : (v == xs[k]?.getD 0) = false := by rw [beq_eq_false_iff_ne]; exact fun h => hv h.symm
        clear hv
        go_wp2
        go_round
        case rel => exact ⟨k + 1, by omega, by go_num, forall_succ HU.out HV.out⟩
        case measure => simp [intOf]; omega
    · go_wp2
      go_ret
      exact ⟨ret_int (idx_miss fun j hj => HU.out j (by rw [HX.out.1] at hj; omega)).symm, rfl⟩

def hasB (xs : List Int) (v : Int) : Bool := decide (v ∈ xs)
theorem contains_any (C : Option Addr) (len cap : Nat) (xs : List Int) (v : Int) (w : World) (B : Nat) (hx : Ints w B C len xs) (hl : len ≤ 9223372036854775807) :
    Calls Try.prog 105 #[.slice C len cap, .int .i64 v] w fun e w' => e = .returned (.bool (hasB xs v)) ∧ w = w' := by
  have HX := Lib.hid hx
  have e : hasB xs v = decide (0 ≤ idx xs v) := by
    unfold hasB
    exact decide_eq_decide.2 idx_nonneg.symm
  have E := Lib.hid e
  clear hx e
  go_enter Try.func105, Try.ntmps105
  go_wp2_with (go_at_call 120; refine (index_any _ _ _ xs _ _ B HX.out hl).mono ?_; rintro e1 w1 ⟨rfl, rfl⟩)
  go_ret
  exact ⟨ret_bool E.out.symm, rfl⟩

/-- A row of a table, as a list. -/
def rowL (m : Nat) (T : Nat → Nat) (a : Nat) : List Int := (List.range m).map fun c => ((T (a * m + c) : Nat) : Int)
theorem rowL_get {m : Nat} {T : Nat → Nat} {a c : Nat} (hc : c < m) : (rowL m T a)[c]?.getD 0 = ((T (a * m + c) : Nat) : Int) := by
  unfold rowL
  rw [List.getElem?_map, List.getElem?_range hc]; rfl
theorem rowL_length {m : Nat} {T : Nat → Nat} {a : Nat} : (rowL m T a).length = m := by simp [rowL]
theorem rowL_mem {m : Nat} {T : Nat → Nat} {a v : Nat} : (v : Int) ∈ rowL m T a ↔ ∃ c, c < m ∧ T (a * m + c) = v := by
  simp [rowL]
  constructor
  · rintro ⟨c, hc, h⟩; exact ⟨c, hc, by omega⟩
  · rintro ⟨c, hc, h⟩; exact ⟨c, hc, by omega⟩
theorem Tab.row {w : World} {B b off m a : Nat} {T : Nat → Nat} (h : Tab w B b off m T) (ha : a < m) : Ints w B (some ⟨b, off + a * m, none⟩) m (rowL m T a) :=
  ⟨rowL_length, fun _ => ⟨b, off + a * m, rfl, h.1, fun k x hx => by
    have hk : k < m := by
      rcases Nat.lt_or_ge k m with h1 | h1
      · exact h1
      · rw [List.getElem?_eq_none (by rw [rowL_length]; exact h1)] at hx; cases hx
    have := rowL_get (T := T) (a := a) hk
    rw [hx] at this
    simp at this
    rw [this]
    exact h.at_ ha hk⟩⟩

def NegLaw (m : Nat) (T : Nat → Nat) : Prop := ∀ a, a < m → (0 : Int) ∈ rowL m T a
noncomputable def negB (m : Nat) (T : Nat → Nat) : Bool := propB (NegLaw m T)
def NegTo (m : Nat) (T : Nat → Nat) (k : Nat) : Prop := ∀ a, a < k → (0 : Int) ∈ rowL m T a

set_option maxHeartbeats 1000000 in
theorem negativesExist_any (m : Nat) (o : Int) (B : Option Addr) (lb cb : Nat) (b off len cap : Nat) (T : Nat → Nat) (w : World) (hm : 1 ≤ m) (hm' : m ≤ 16) (hl : len = m * m) (hc : len ≤ cap) (hT : Tab w w.heap.size b off m T) :
    Calls Try.prog 103 #[.agg #[.int .i64 m, .int .i64 o, .slice (some ⟨b, off, none⟩) len cap, .slice B lb cb]] w fun e' w' =>
      e' = .returned (.bool (negB m T)) ∧ Below w.heap.size w w' := by
  have HT := Lib.hid hT
  have HL := Lib.hid hl
  clear hT hl
  go_enter Try.func103, Try.ntmps103
  go_wp2
  go_loopg [6] m (fun g i wr => ∃ a : Nat, a ≤ m ∧ m ≤ a + g ∧ i = .int .i64 a ∧ NegTo m T a ∧ Below (w.heap.size + 1) (w.alloc (.cells #[.int .i64 m, .int .i64 o, .slice (some ⟨b, off, none⟩) len cap, .slice B lb cb] 25)) wr)
  case atStart => exact ⟨0, Nat.zero_le _, by omega, rfl, fun j hj => absurd hj (by omega), Below.refl _ _⟩
  case round =>
    obtain ⟨a, ha, hg, rfl, hup, hb⟩ := hrel
    have HU := Lib.hid hup
    clear hup
    obtain ⟨d0, d1, d2, d3, hs1⟩ := box4 hb
    have HB := Lib.hid (below_of_box hb)
    have HB1 := Lib.hid hb
    clear hb
    by_cases hlt : a < m
    · cases hq : hasB (rowL m T a) 0
      · go_wp2_with (first
          | (go_at_call 108; refine (row_any _ _ _ _ _ _ _ _ _ _ _ _ _ _ hm hm' hlt HL.out hc).mono ?_; rintro e1 w1 ⟨rfl, hb1⟩; have HT1 := Lib.hid (((HT.out.below HB.out (Nat.le_refl _)).below hb1 (by omega)).row hlt); have HB2 := Lib.hid hb1; clear hb1)
          | (go_at_call 105; refine (contains_any _ _ _ (rowL m T a) _ _ _ HT1.out (by omega)).mono ?_; rintro e2 w2 ⟨rfl, rfl⟩))
        go_ret
        exact ⟨ret_bool (propB_false fun g => by have := g a hlt; unfold hasB at hq; exact absurd this (of_decide_eq_false hq)).symm, HB.out.trans (HB2.out.mono (by omega))⟩
      · go_wp2_with (first
          | (go_at_call 108; refine (row_any _ _ _ _ _ _ _ _ _ _ _ _ _ _ hm hm' hlt HL.out hc).mono ?_; rintro e1 w1 ⟨rfl, hb1⟩; have HT1 := Lib.hid (((HT.out.below HB.out (Nat.le_refl _)).below hb1 (by omega)).row hlt); have HB2 := Lib.hid hb1; clear hb1)
          | (go_at_call 105; refine (contains_any _ _ _ (rowL m T a) _ _ _ HT1.out (by omega)).mono ?_; rintro e2 w2 ⟨rfl, rfl⟩))
        go_roundg (m - (a + 1))
        case measure => omega
        case rel => exact ⟨a + 1, by omega, by omega, by go_num, forall_succ HU.out (by unfold hasB at hq; exact of_decide_eq_true hq), HB1.out.trans (HB2.out.mono (by omega))⟩
    · go_wp2
      go_ret
      exact ⟨ret_bool (propB_true fun j hj => HU.out j (by omega)).symm, HB.out⟩

end Go.Proofs.Ytlcpbdbdiahmjaa



/- The contract of distributes: each product with a sum is the sum of the products. -/
namespace Go.Proofs.Ytlcpbdbdiahmjaa
open Go.RowKit

def Dist3 (m : Nat) (S P : Nat → Nat) (a b c : Nat) : Prop := P (a * m + S (b * m + c)) = S (P (a * m + b) * m + P (a * m + c))
def Dist2 (m : Nat) (S P : Nat → Nat) (a b : Nat) : Prop := ∀ c, c < m → Dist3 m S P a b c
def Dist1 (m : Nat) (S P : Nat → Nat) (a : Nat) : Prop := ∀ b, b < m → Dist2 m S P a b
def DistLaw (m : Nat) (S P : Nat → Nat) : Prop := ∀ a, a < m → Dist1 m S P a
def DTo1 (m : Nat) (S P : Nat → Nat) (k : Nat) : Prop := ∀ a, a < k → Dist1 m S P a
def DTo2 (m : Nat) (S P : Nat → Nat) (a k : Nat) : Prop := ∀ b, b < k → Dist2 m S P a b
def DTo3 (m : Nat) (S P : Nat → Nat) (a b k : Nat) : Prop := ∀ c, c < k → Dist3 m S P a b c
noncomputable def distB (m : Nat) (S P : Nat → Nat) : Bool := propB (DistLaw m S P)

set_option maxHeartbeats 1000000 in
theorem distributes_any (m : Nat) (o : Int) (b1 off1 len1 cap1 b2 off2 len2 cap2 : Nat) (S P : Nat → Nat) (w : World) (hm : 1 ≤ m) (hm' : m ≤ 16) (hl1 : len1 = m * m) (hl2 : len2 = m * m) (hc1 : len1 ≤ cap1) (hc2 : len2 ≤ cap2)
    (hS : Tab w w.heap.size b1 off1 m S) (hP : Tab w w.heap.size b2 off2 m P) :
    Calls Try.prog 104 #[.agg #[.int .i64 m, .int .i64 o, .slice (some ⟨b1, off1, none⟩) len1 cap1, .slice (some ⟨b2, off2, none⟩) len2 cap2]] w fun e' w' =>
      e' = .returned (.bool (distB m S P)) ∧ Below w.heap.size w w' := by
  have HS := Lib.hid hS
  have HP := Lib.hid hP
  have HL1 := Lib.hid hl1
  have HL2 := Lib.hid hl2
  clear hS hP hl1 hl2
  go_enter Try.func104, Try.ntmps104
  go_wp2
  go_step3
  go_wp2
  go_step3
  go_wp2
  obtain ⟨c0, c1, c2, c3, hs⟩ := box4_new w (.int .i64 m) (.int .i64 o) (.slice (some ⟨b1, off1, none⟩) len1 cap1) (.slice (some ⟨b2, off2, none⟩) len2 cap2) 25
  obtain ⟨W, hW⟩ : ∃ W, w.alloc (.cells #[.int .i64 m, .int .i64 o, .slice (some ⟨b1, off1, none⟩) len1 cap1, .slice (some ⟨b2, off2, none⟩) len2 cap2] 25) = W := ⟨_, rfl⟩
  have hbw : Below w.heap.size w W := by
    subst hW
    exact (Below.refl w.heap.size w).alloc (Nat.le_refl _) _
  have HS0 := Lib.hid (HS.out.below hbw (Nat.le_refl _))
  have HP0 := Lib.hid (HP.out.below hbw (Nat.le_refl _))
  rw [hW] at c0 c1 c2 c3 hs ⊢
  have HB := Lib.hid hbw
  clear hW hbw
  go_loopg [3, 12] m (fun g h i wr => ∃ a : Nat, a ≤ m ∧ m ≤ a + g ∧ h = .bool true ∧ i = .int .i64 a ∧ DTo1 m S P a ∧ Below (w.heap.size + 1) W wr)
  case atStart => exact ⟨0, Nat.zero_le _, by omega, rfl, rfl, fun j hj => absurd hj (by omega), Below.refl _ _⟩
  case round =>
    obtain ⟨a, ha, hg, rfl, rfl, hup, hb⟩ := hrel
    have HU := Lib.hid hup
    obtain ⟨d0, d1, d2, d3, hs1⟩ := box4_next hb (Nat.lt_succ_self _) c0 c1 c2 c3
    have HB1 := Lib.hid hb
    clear hb hup
    by_cases hlt : a < m
    · go_wp2_with (go_at_call 108; refine (row_any _ _ _ _ _ _ _ _ _ _ _ _ _ _ hm hm' hlt HL2.out hc2).mono ?_; rintro e1 w1 ⟨rfl, hb1⟩; obtain ⟨f0, f1, f2, f3, hs2⟩ := box4_next hb1 (Nat.lt_of_lt_of_le hs hs1) d0 d1 d2 d3)
      have HB2 := Lib.hid (HB1.out.trans (hb1.mono (by omega)))
      clear hb1
      obtain ⟨g1, hg1⟩ : ∃ g1 : Nat, g1 = gk := ⟨_, rfl⟩
      go_loopg [3, 22] m (fun g h i wr => ∃ c : Nat, c ≤ m ∧ m ≤ c + g ∧ h = .bool true ∧ i = .int .i64 c ∧ DTo2 m S P a c ∧ Below w1.heap.size w1 wr)
      case atStart => exact ⟨0, Nat.zero_le _, by omega, rfl, rfl, fun j hj => absurd hj (by omega), Below.refl _ _⟩
      case round =>
        obtain ⟨c, hcm, hgc, rfl, rfl, hup2, hb2⟩ := hrel
        obtain ⟨k0, k1, k2, k3, hs3⟩ := box4_next hb2 (Nat.lt_of_lt_of_le (Nat.lt_of_lt_of_le hs hs1) hs2) f0 f1 f2 f3
        have HB3 := Lib.hid (HB2.out.trans (hb2.mono (by omega)))
        have HU2 := Lib.hid hup2
        have HB32 := Lib.hid hb2
        clear hb2 hup2
        by_cases hlt2 : c < m
        · have hT1 : P (a * m + c) < m := HP.out.lt hlt hlt2
          go_wp2_with (go_at_call 108; refine (row_any _ _ _ _ _ _ _ _ _ _ _ _ _ _ hm hm' hlt2 HL1.out hc1).mono ?_; rintro e2 w2 ⟨rfl, hb3⟩; obtain ⟨l0, l1, l2, l3, hs4⟩ := box4_next hb3 (by omega) k0 k1 k2 k3; have ht1 := ((HP0.out.below HB3.out (by omega)).below hb3 (by omega)).at_ hlt hlt2)
          have HB4 := Lib.hid (HB3.out.trans (hb3.mono (by omega)))
          have HB42 := Lib.hid (HB32.out.trans (hb3.mono (by omega)))
          clear hb3
          refine wp_region_ext (by kernel_rfl) (by kernel_rfl) ?_
          repeat (go_big_quiet_step ((go_at_call 108; refine calls_ext (row_any _ _ _ _ _ _ _ _ _ _ _ _ _ _ hm hm' hT1 HL1.out hc1))))
          refine wpQuiet_nil ?_
          intro w3 hb4
          obtain ⟨p0, p1, p2, p3, hs5⟩ := box4_next hb4 (by omega) (w1 := w3) l0 l1 l2 l3
          have HB5 := Lib.hid (HB4.out.trans (hb4.mono (by omega)))
          have HB52 := Lib.hid (HB42.out.trans (hb4.mono (by omega)))
          clear ht1 hb4
          go_wp2
          obtain ⟨g2, hg2⟩ : ∃ g2 : Nat, g2 = gk := ⟨_, rfl⟩
          go_loopg [3, 40] m (fun g h i wr => ∃ d : Nat, d ≤ m ∧ m ≤ d + g ∧ h = .bool true ∧ i = .int .i64 d ∧ DTo3 m S P a c d ∧ Below w3.heap.size w3 wr)
          case atStart => exact ⟨0, Nat.zero_le _, by omega, rfl, rfl, fun j hj => absurd hj (by omega), Below.refl _ _⟩
          case round =>
            obtain ⟨d, hdm, hgd, rfl, rfl, hup3, hb5⟩ := hrel
            have HB6 := Lib.hid (HB5.out.trans (hb5.mono (by omega)))
            have HB62 := Lib.hid (HB52.out.trans (hb5.mono (by omega)))
            have HU3 := Lib.hid hup3
            have HB7 := Lib.hid hb5
            clear hb5 hup3
            by_cases hlt3 : d < m
            · have hT2 : S (c * m + d) < m := HS.out.lt hlt2 hlt3
              have hT3 : P (a * m + d) < m := HP.out.lt hlt hlt3
              have u1 := ((HS0.out.below HB6.out (by omega))).at_ hlt2 hlt3
              have u2 := ((HP0.out.below HB6.out (by omega))).at_ hlt hT2
              have u3 := ((HP0.out.below HB6.out (by omega))).at_ hlt hlt3
              have u4 := ((HS0.out.below HB6.out (by omega))).at_ hT1 hT3
              by_cases h3 : P (a * m + S (c * m + d)) = S (P (a * m + c) * m + P (a * m + d))
              · have H3 := Lib.hid h3
                have h3a : P (a * m + S (c * m + d)) ≤ S (P (a * m + c) * m + P (a * m + d)) := by omega
                have h3b : S (P (a * m + c) * m + P (a * m + d)) ≤ P (a * m + S (c * m + d)) := by omega
                clear h3
                go_wp2
                go_quiet (fail)
                go_wp2
                go_roundg (m - (d + 1))
                case measure => omega
                case rel => exact ⟨d + 1, by omega, by omega, rfl, by go_num, forall_succ HU3.out H3.out, below_drewN HB7.out _⟩
              · go_wp2
                go_quiet (fail)
                go_wp2
                rw [Exit.noGoto_ret]
                go_ret
                exact ⟨ret_bool (propB_false fun g => h3 (g a hlt c hlt2 d hlt3)).symm, below_drewN (HB.out.trans (HB6.out.mono (by omega))) _⟩
            · go_wp2
              go_roundg (m - (c + 1))
              case measure => omega
              case rel => exact ⟨c + 1, by omega, by omega, rfl, by go_num, forall_succ HU2.out (fun j hj => HU3.out j (by omega)), HB62.out⟩
        · go_wp2
          go_roundg (m - (a + 1))
          case measure => omega
          case rel => exact ⟨a + 1, by omega, by omega, rfl, by go_num, forall_succ HU.out (fun j hj => HU2.out j (by omega)), HB3.out⟩
    · go_wp2
      rw [Exit.noGoto_ret]
      go_ret
      exact ⟨ret_bool (propB_true fun j hj => HU.out j (by omega)).symm, HB.out.trans (HB1.out.mono (by omega))⟩

end Go.Proofs.Ytlcpbdbdiahmjaa



/- The contract of RingValid. -/
namespace Go.Proofs.Ytlcpbdbdiahmjaa
open Go.RowKit

/-- A list of numbers as a table. -/
def tabOf (xs : List Int) : Nat → Nat := fun k => (xs[k]?.getD 0).toNat
theorem fitsB_iff {n o : Int} {S P : List Int} : fitsB n o S P = true ↔
    1 ≤ n ∧ n ≤ 16 ∧ (0 ≤ o ∧ o < n) ∧ (S.length : Int) = n * n ∧ (P.length : Int) = n * n ∧ (∀ k, k < S.length → 0 ≤ S[k]?.getD 0 ∧ S[k]?.getD 0 < n) ∧ (∀ k, k < P.length → 0 ≤ P[k]?.getD 0 ∧ P[k]?.getD 0 < n) := by
  simp only [fitsB, eq4, inB, allB, Bool.and_eq_true, decide_eq_true_eq, beq_iff_eq]
  constructor
  · rintro ⟨h1, h2, h3, ⟨_, _, h4, h5⟩, h6, h7⟩; exact ⟨h1, h2, h3, h4, h5, h6, h7⟩
  · rintro ⟨h1, h2, h3, h4, h5, h6, h7⟩; exact ⟨h1, h2, h3, ⟨trivial, trivial, h4, h5⟩, h6, h7⟩
/-- What fits has a size that is a number of elements, One, and tables. -/
theorem fits_data {n o : Int} {S P : List Int} (h : fitsB n o S P = true) : ∃ m e : Nat, n = m ∧ o = e ∧ 1 ≤ m ∧ m ≤ 16 ∧ e < m ∧ S.length = m * m ∧ P.length = m * m ∧
    (∀ k, k < m * m → S[k]?.getD 0 = (tabOf S k : Int) ∧ tabOf S k < m) ∧ (∀ k, k < m * m → P[k]?.getD 0 = (tabOf P k : Int) ∧ tabOf P k < m) := by
  obtain ⟨h1, h2, h3, h4, h5, h6, h7⟩ := fitsB_iff.1 h
  obtain ⟨m, rfl⟩ := Int.eq_ofNat_of_zero_le (show 0 ≤ n by omega)
  obtain ⟨e, rfl⟩ := Int.eq_ofNat_of_zero_le h3.1
  have e1 : S.length = m * m := by have : ((S.length : Nat) : Int) = ((m * m : Nat) : Int) := by rw [h4]; simp
                                   omega
  have e2 : P.length = m * m := by have : ((P.length : Nat) : Int) = ((m * m : Nat) : Int) := by rw [h5]; simp
                                   omega
  refine ⟨m, e, rfl, rfl, by omega, by omega, by omega, e1, e2, fun k hk => ?_, fun k hk => ?_⟩
  · have := h6 k (by omega)
    unfold tabOf; omega
  · have := h7 k (by omega)
    unfold tabOf; omega
theorem tab_of_ints {w : World} {B len m : Nat} {A : Option Addr} {xs : List Int} (h : Ints w B A len xs) (hm : 1 ≤ m) (hl : xs.length = m * m) (hx : ∀ k, k < m * m → xs[k]?.getD 0 = (tabOf xs k : Int) ∧ tabOf xs k < m) :
    ∃ b off, A = some ⟨b, off, none⟩ ∧ Tab w B b off m (tabOf xs) := by
  have hp : 0 < m * m := Nat.mul_pos hm hm
  obtain ⟨b, off, rfl, hb, hc⟩ := h.2 (by rw [← h.1, hl]; exact hp)
  refine ⟨b, off, rfl, hb, fun k hk => ?_⟩
  have h2 := hx k hk
  refine ⟨?_, h2.2⟩
  rw [← h2.1]
  rw [List.getElem?_eq_getElem (by omega)]
  exact hc k _ (List.getElem?_eq_getElem (by omega))

theorem Tab.next {w w' : World} {b off m : Nat} {T : Nat → Nat} (h : Tab w w.heap.size b off m T) (hb : Below w.heap.size w w') : Tab w' w'.heap.size b off m T := by
  have := h.below hb (Nat.le_refl _)
  exact ⟨Nat.lt_of_lt_of_le this.1 hb.size, this.2⟩
theorem Ints.next {w w' : World} {n : Nat} {A : Option Addr} {xs : List Int} (h : Ints w w.heap.size A n xs) (hb : Below w.heap.size w w') : Ints w' w'.heap.size A n xs := (h.below hb (Nat.le_refl _)).more hb.size

/-- The laws of a ring, of tables that fit. -/
noncomputable def lawsB (m e : Nat) (S P : Nat → Nat) : Bool := opB m S 0 && (opB m P e && (negB m S && distB m S P))
noncomputable def validB (n o : Int) (S P : List Int) : Bool := fitsB n o S P && lawsB n.toNat o.toNat (tabOf S) (tabOf P)

theorem operationHolds_zero (m : Nat) (o : Int) (A B : Option Addr) (la ca lb cb : Nat) (b off len cap : Nat) (T : Nat → Nat) (w : World) (hm : 1 ≤ m) (hm' : m ≤ 16) (hl : len = m * m) (hc : len ≤ cap) (hT : Tab w w.heap.size b off m T) :
    Calls Try.prog 102 #[.agg #[.int .i64 m, .int .i64 o, .slice A la ca, .slice B lb cb], .slice (some ⟨b, off, none⟩) len cap, .int .i64 0] w fun e' w' =>
      e' = .returned (.bool (opB m T 0)) ∧ Below w.heap.size w w' := by
  have := operationHolds_any m 0 o A B la ca lb cb b off len cap T w hm hm' hm hl hc hT
  exact this

set_option maxHeartbeats 1000000 in
theorem valid_no (n o : Int) (A B : Option Addr) (la ca lb cb : Nat) (S T : List Int) (w : World)
    (hS : Ints w w.heap.size A la S) (hT : Ints w w.heap.size B lb T) (hla : la ≤ 9223372036854775807) (hlb : lb ≤ 9223372036854775807) (hf : fitsB n o S T = false) :
    Calls Try.prog 71 #[.agg #[.int .i64 n, .int .i64 o, .slice A la ca, .slice B lb cb]] w fun e w' => e = .returned (.bool false) ∧ Below w.heap.size w w' := by
  have HS := Lib.hid ((hS.alloc (Nat.le_refl _) (.cells #[.int .i64 n, .int .i64 o, .slice A la ca, .slice B lb cb] 25)).more (Nat.le_succ _))
  have HT := Lib.hid ((hT.alloc (Nat.le_refl _) (.cells #[.int .i64 n, .int .i64 o, .slice A la ca, .slice B lb cb] 25)).more (Nat.le_succ _))
  clear hS hT
  go_enter Try.func71, Try.ntmps71
  go_wp2_with (go_at_call 101; refine (fits_any _ _ _ _ _ _ _ _ S T _ (by simpa using HS.out) (by simpa using HT.out) hla hlb).mono ?_; rintro e w1 ⟨rfl, hb1⟩)
  go_ret
  exact ⟨rfl, ((Below.refl _ _).alloc (Nat.le_refl _) _).trans (hb1.mono (by simp))⟩

set_option maxHeartbeats 2000000 in
theorem valid_laws (m e : Nat) (b1 off1 la ca b2 off2 lb cb : Nat) (S T : List Int) (w : World) (hm : 1 ≤ m) (hm' : m ≤ 16) (he : e < m) (hla : la = m * m) (hlb : lb = m * m) (hca : la ≤ ca) (hcb : lb ≤ cb)
    (hS : Ints w w.heap.size (some ⟨b1, off1, none⟩) la S) (hT : Ints w w.heap.size (some ⟨b2, off2, none⟩) lb T) (hf : fitsB m e S T = true)
    (tS : Tab w w.heap.size b1 off1 m (tabOf S)) (tT : Tab w w.heap.size b2 off2 m (tabOf T)) :
    Calls Try.prog 71 #[.agg #[.int .i64 m, .int .i64 e, .slice (some ⟨b1, off1, none⟩) la ca, .slice (some ⟨b2, off2, none⟩) lb cb]] w fun e' w' =>
      e' = .returned (.bool (lawsB m e (tabOf S) (tabOf T))) ∧ Below w.heap.size w w' := by
  have hq : m * m ≤ 256 := Nat.mul_le_mul hm' hm'
  have hla' : la ≤ 9223372036854775807 := by omega
  have hlb' : lb ≤ 9223372036854775807 := by omega
  have HS := Lib.hid hS
  have HT := Lib.hid hT
  have TS := Lib.hid tS
  have TT := Lib.hid tT
  have LA := Lib.hid hla
  have LB := Lib.hid hlb
  clear hS hT tS tT hla hlb
  obtain ⟨c0, c1, c2, c3, hs⟩ := box4_new w (.int .i64 m) (.int .i64 e) (.slice (some ⟨b1, off1, none⟩) la ca) (.slice (some ⟨b2, off2, none⟩) lb cb) 25
  obtain ⟨W, hW⟩ : ∃ W, w.alloc (.cells #[.int .i64 m, .int .i64 e, .slice (some ⟨b1, off1, none⟩) la ca, .slice (some ⟨b2, off2, none⟩) lb cb] 25) = W := ⟨_, rfl⟩
  have HB := Lib.hid (show Below w.heap.size w W by subst hW; exact (Below.refl w.heap.size w).alloc (Nat.le_refl _) _)
  rw [hW] at c0 c1 c2 c3 hs
  have HW := Lib.hid hW
  clear hW
  have H0S := Lib.hid (HS.out.next HB.out)
  have H0T := Lib.hid (HT.out.next HB.out)
  unfold lawsB
  cases q1 : opB m (tabOf S) 0
  · go_enter Try.func71, Try.ntmps71
    go_wp2_with (fail)
    rw [HW.out]
    go_wp2_with (first
        | (go_at_call 101; refine (fits_any _ _ _ _ _ _ _ _ S T _ H0S.out H0T.out hla' hlb').mono ?_; rintro e1 w1 ⟨rfl, hb1⟩; obtain ⟨d0, d1, d2, d3, hs1⟩ := box4_next hb1 hs c0 c1 c2 c3; have X1 := Lib.hid (HB.out.trans (hb1.mono (by omega))); clear hb1)
        | (go_at_call 102; ((with_reducible refine (operationHolds_zero _ _ _ _ _ _ _ _ b1 off1 la ca (tabOf S) _ hm hm' LA.out hca (TS.out.next X1.out)).mono ?_); rintro e2 w2 ⟨rfl, hb2⟩; obtain ⟨f0, f1, f2, f3, hs2⟩ := box4_next hb2 (by omega) d0 d1 d2 d3; have X2 := Lib.hid (X1.out.trans (hb2.mono (by omega))); clear hb2))
        | (go_at_call 102; ((with_reducible refine (operationHolds_any _ e _ _ _ _ _ _ _ b2 off2 lb cb (tabOf T) _ hm hm' he LB.out hcb (TT.out.next X2.out)).mono ?_); rintro e3 w3 ⟨rfl, hb3⟩; obtain ⟨g0, g1, g2, g3, hs3⟩ := box4_next hb3 (by omega) f0 f1 f2 f3; have X3 := Lib.hid (X2.out.trans (hb3.mono (by omega))); clear hb3))
        | (go_at_call 103; refine (negativesExist_any _ _ _ _ _ b1 off1 la ca (tabOf S) _ hm hm' LA.out hca (TS.out.next X3.out)).mono ?_; rintro e4 w4 ⟨rfl, hb4⟩; obtain ⟨k0, k1, k2, k3, hs4⟩ := box4_next hb4 (by omega) g0 g1 g2 g3; have X4 := Lib.hid (X3.out.trans (hb4.mono (by omega))); clear hb4)
        | (go_at_call 104; refine (distributes_any _ _ b1 off1 la ca b2 off2 lb cb (tabOf S) (tabOf T) _ hm hm' LA.out LB.out hca hcb (TS.out.next X4.out) (TT.out.next X4.out)).mono ?_; rintro e5 w5 ⟨rfl, hb5⟩; have X5 := Lib.hid (X4.out.trans (hb5.mono (by omega))); clear hb5))
    go_ret
    exact ⟨rfl, X2.out⟩
  cases q2 : opB m (tabOf T) e
  · go_enter Try.func71, Try.ntmps71
    go_wp2_with (fail)
    rw [HW.out]
    go_wp2_with (first
        | (go_at_call 101; refine (fits_any _ _ _ _ _ _ _ _ S T _ H0S.out H0T.out hla' hlb').mono ?_; rintro e1 w1 ⟨rfl, hb1⟩; obtain ⟨d0, d1, d2, d3, hs1⟩ := box4_next hb1 hs c0 c1 c2 c3; have X1 := Lib.hid (HB.out.trans (hb1.mono (by omega))); clear hb1)
        | (go_at_call 102; ((with_reducible refine (operationHolds_zero _ _ _ _ _ _ _ _ b1 off1 la ca (tabOf S) _ hm hm' LA.out hca (TS.out.next X1.out)).mono ?_); rintro e2 w2 ⟨rfl, hb2⟩; obtain ⟨f0, f1, f2, f3, hs2⟩ := box4_next hb2 (by omega) d0 d1 d2 d3; have X2 := Lib.hid (X1.out.trans (hb2.mono (by omega))); clear hb2))
        | (go_at_call 102; ((with_reducible refine (operationHolds_any _ e _ _ _ _ _ _ _ b2 off2 lb cb (tabOf T) _ hm hm' he LB.out hcb (TT.out.next X2.out)).mono ?_); rintro e3 w3 ⟨rfl, hb3⟩; obtain ⟨g0, g1, g2, g3, hs3⟩ := box4_next hb3 (by omega) f0 f1 f2 f3; have X3 := Lib.hid (X2.out.trans (hb3.mono (by omega))); clear hb3))
        | (go_at_call 103; refine (negativesExist_any _ _ _ _ _ b1 off1 la ca (tabOf S) _ hm hm' LA.out hca (TS.out.next X3.out)).mono ?_; rintro e4 w4 ⟨rfl, hb4⟩; obtain ⟨k0, k1, k2, k3, hs4⟩ := box4_next hb4 (by omega) g0 g1 g2 g3; have X4 := Lib.hid (X3.out.trans (hb4.mono (by omega))); clear hb4)
        | (go_at_call 104; refine (distributes_any _ _ b1 off1 la ca b2 off2 lb cb (tabOf S) (tabOf T) _ hm hm' LA.out LB.out hca hcb (TS.out.next X4.out) (TT.out.next X4.out)).mono ?_; rintro e5 w5 ⟨rfl, hb5⟩; have X5 := Lib.hid (X4.out.trans (hb5.mono (by omega))); clear hb5))
    go_ret
    exact ⟨rfl, X3.out⟩
  cases q3 : negB m (tabOf S)
  · go_enter Try.func71, Try.ntmps71
    go_wp2_with (fail)
    rw [HW.out]
    go_wp2_with (first
        | (go_at_call 101; refine (fits_any _ _ _ _ _ _ _ _ S T _ H0S.out H0T.out hla' hlb').mono ?_; rintro e1 w1 ⟨rfl, hb1⟩; obtain ⟨d0, d1, d2, d3, hs1⟩ := box4_next hb1 hs c0 c1 c2 c3; have X1 := Lib.hid (HB.out.trans (hb1.mono (by omega))); clear hb1)
        | (go_at_call 102; ((with_reducible refine (operationHolds_zero _ _ _ _ _ _ _ _ b1 off1 la ca (tabOf S) _ hm hm' LA.out hca (TS.out.next X1.out)).mono ?_); rintro e2 w2 ⟨rfl, hb2⟩; obtain ⟨f0, f1, f2, f3, hs2⟩ := box4_next hb2 (by omega) d0 d1 d2 d3; have X2 := Lib.hid (X1.out.trans (hb2.mono (by omega))); clear hb2))
        | (go_at_call 102; ((with_reducible refine (operationHolds_any _ e _ _ _ _ _ _ _ b2 off2 lb cb (tabOf T) _ hm hm' he LB.out hcb (TT.out.next X2.out)).mono ?_); rintro e3 w3 ⟨rfl, hb3⟩; obtain ⟨g0, g1, g2, g3, hs3⟩ := box4_next hb3 (by omega) f0 f1 f2 f3; have X3 := Lib.hid (X2.out.trans (hb3.mono (by omega))); clear hb3))
        | (go_at_call 103; refine (negativesExist_any _ _ _ _ _ b1 off1 la ca (tabOf S) _ hm hm' LA.out hca (TS.out.next X3.out)).mono ?_; rintro e4 w4 ⟨rfl, hb4⟩; obtain ⟨k0, k1, k2, k3, hs4⟩ := box4_next hb4 (by omega) g0 g1 g2 g3; have X4 := Lib.hid (X3.out.trans (hb4.mono (by omega))); clear hb4)
        | (go_at_call 104; refine (distributes_any _ _ b1 off1 la ca b2 off2 lb cb (tabOf S) (tabOf T) _ hm hm' LA.out LB.out hca hcb (TS.out.next X4.out) (TT.out.next X4.out)).mono ?_; rintro e5 w5 ⟨rfl, hb5⟩; have X5 := Lib.hid (X4.out.trans (hb5.mono (by omega))); clear hb5))
    go_ret
    exact ⟨rfl, X4.out⟩
  · go_enter Try.func71, Try.ntmps71
    go_wp2_with (fail)
    rw [HW.out]
    go_wp2_with (first
        | (go_at_call 101; refine (fits_any _ _ _ _ _ _ _ _ S T _ H0S.out H0T.out hla' hlb').mono ?_; rintro e1 w1 ⟨rfl, hb1⟩; obtain ⟨d0, d1, d2, d3, hs1⟩ := box4_next hb1 hs c0 c1 c2 c3; have X1 := Lib.hid (HB.out.trans (hb1.mono (by omega))); clear hb1)
        | (go_at_call 102; ((with_reducible refine (operationHolds_zero _ _ _ _ _ _ _ _ b1 off1 la ca (tabOf S) _ hm hm' LA.out hca (TS.out.next X1.out)).mono ?_); rintro e2 w2 ⟨rfl, hb2⟩; obtain ⟨f0, f1, f2, f3, hs2⟩ := box4_next hb2 (by omega) d0 d1 d2 d3; have X2 := Lib.hid (X1.out.trans (hb2.mono (by omega))); clear hb2))
        | (go_at_call 102; ((with_reducible refine (operationHolds_any _ e _ _ _ _ _ _ _ b2 off2 lb cb (tabOf T) _ hm hm' he LB.out hcb (TT.out.next X2.out)).mono ?_); rintro e3 w3 ⟨rfl, hb3⟩; obtain ⟨g0, g1, g2, g3, hs3⟩ := box4_next hb3 (by omega) f0 f1 f2 f3; have X3 := Lib.hid (X2.out.trans (hb3.mono (by omega))); clear hb3))
        | (go_at_call 103; refine (negativesExist_any _ _ _ _ _ b1 off1 la ca (tabOf S) _ hm hm' LA.out hca (TS.out.next X3.out)).mono ?_; rintro e4 w4 ⟨rfl, hb4⟩; obtain ⟨k0, k1, k2, k3, hs4⟩ := box4_next hb4 (by omega) g0 g1 g2 g3; have X4 := Lib.hid (X3.out.trans (hb4.mono (by omega))); clear hb4)
        | (go_at_call 104; refine (distributes_any _ _ b1 off1 la ca b2 off2 lb cb (tabOf S) (tabOf T) _ hm hm' LA.out LB.out hca hcb (TS.out.next X4.out) (TT.out.next X4.out)).mono ?_; rintro e5 w5 ⟨rfl, hb5⟩; have X5 := Lib.hid (X4.out.trans (hb5.mono (by omega))); clear hb5))
    go_ret
    exact ⟨rfl, X5.out⟩

/-- RingValid tells whether tables are a ring. -/
theorem valid_any (n o : Int) (A B : Option Addr) (la ca lb cb : Nat) (S T : List Int) (w : World)
    (hS : Ints w w.heap.size A la S) (hT : Ints w w.heap.size B lb T) (hla : la ≤ 9223372036854775807) (hlb : lb ≤ 9223372036854775807) (hca : la ≤ ca) (hcb : lb ≤ cb) :
    Calls Try.prog 71 #[.agg #[.int .i64 n, .int .i64 o, .slice A la ca, .slice B lb cb]] w fun e w' => e = .returned (.bool (validB n o S T)) ∧ Below w.heap.size w w' := by
  unfold validB
  cases hf : fitsB n o S T
  · exact valid_no _ _ _ _ _ _ _ _ _ _ _ hS hT hla hlb hf
  · obtain ⟨m, e, rfl, rfl, hm, hm', he, h1, h2, h3, h4⟩ := fits_data hf
    obtain ⟨b1, off1, rfl, tS⟩ := tab_of_ints hS hm h1 h3
    obtain ⟨b2, off2, rfl, tT⟩ := tab_of_ints hT hm h2 h4
    exact valid_laws m e _ _ _ _ _ _ _ _ S T w hm hm' he (by rw [← hS.1, h1]) (by rw [← hT.1, h2]) hca hcb hS hT hf tS tT

end Go.Proofs.Ytlcpbdbdiahmjaa



/- Rings that are there: sums and products, by both sides. -/
namespace Go.Proofs.Ytlcpbdbdiahmjaa
open Go.RowKit

/-- A ring whose tables fit lies in a world. -/
structure RingAt (w : World) (m e b1 o1 la ca b2 o2 lb cb : Nat) (S P : Nat → Nat) : Prop where
  hm : 1 ≤ m
  hm' : m ≤ 16
  he : e < m
  hla : la = m * m
  hlb : lb = m * m
  hca : la ≤ ca
  hcb : lb ≤ cb
  ts : Tab w w.heap.size b1 o1 m S
  tp : Tab w w.heap.size b2 o2 m P
theorem RingAt.next {w w' : World} {m e b1 o1 la ca b2 o2 lb cb : Nat} {S P : Nat → Nat} (h : RingAt w m e b1 o1 la ca b2 o2 lb cb S P) (hb : Below w.heap.size w w') : RingAt w' m e b1 o1 la ca b2 o2 lb cb S P :=
  ⟨h.hm, h.hm', h.he, h.hla, h.hlb, h.hca, h.hcb, h.ts.next hb, h.tp.next hb⟩
theorem RingAt.more {w w' : World} {m e b1 o1 la ca b2 o2 lb cb B : Nat} {S P : Nat → Nat} (h : RingAt w m e b1 o1 la ca b2 o2 lb cb S P) (hb : Below B w w') (hB : w.heap.size ≤ B) : RingAt w' m e b1 o1 la ca b2 o2 lb cb S P := h.next (hb.mono hB)

theorem mul_nums {m a b : Nat} (hm' : m ≤ 16) (ha : a < m) (hb : b < m) : (a : Int) * m + b ≤ 256 ∧ 0 ≤ (a : Int) * m ∧ (a : Int) * m ≤ 256 ∧ a * m + b < m * m ∧ (a : Int) * m + b < ((m * m : Nat) : Int) := by
  have h2 : a * m ≤ 16 * 16 := Nat.mul_le_mul (by omega) hm'
  have h3 := idx_lt ha hb
  have e1 : (a : Int) * m = (a * m : Nat) := by simp
  have h4 : m * m ≤ 16 * 16 := Nat.mul_le_mul (by omega) hm'
  rw [e1]
  refine ⟨?_, ?_, ?_, ?_, ?_⟩ <;> omega

set_option maxHeartbeats 400000 in
theorem l1Add_any (a b : Nat) (m e b1 o1 la ca b2 o2 lb cb : Nat) (S P : Nat → Nat) (w : World) (hr : RingAt w m e b1 o1 la ca b2 o2 lb cb S P) (ha : a < m) (hb : b < m) :
    Calls Try.prog 52 #[.agg #[.int .i64 m, .int .i64 e, .slice (some ⟨b1, o1, none⟩) la ca, .slice (some ⟨b2, o2, none⟩) lb cb], .int .i64 a, .int .i64 b] w fun e' w' => e' = .returned (.int .i64 (S (a * m + b))) ∧ Below w.heap.size w w' := by
  obtain ⟨hm, hm', he, hla, hlb, hca, hcb, ts, tp⟩ := hr
  have hc := ((ts.next ((Below.refl w.heap.size w).alloc (Nat.le_refl _) (.cells #[.int .i64 m, .int .i64 e, .slice (some ⟨b1, o1, none⟩) la ca, .slice (some ⟨b2, o2, none⟩) lb cb] 25))).2 _ (idx_lt ha hb)).1
  obtain ⟨g1, g2, g3, g4, g5⟩ := mul_nums hm' ha hb
  rw [← hla] at g4 g5
  clear ts tp hla hlb
  go_enter Try.func52, Try.ntmps52
  go_wp2
  go_ret
  exact ⟨rfl, (Below.refl _ _).alloc (Nat.le_refl _) _⟩
set_option maxHeartbeats 400000 in
theorem l1Mul_any (a b : Nat) (m e b1 o1 la ca b2 o2 lb cb : Nat) (S P : Nat → Nat) (w : World) (hr : RingAt w m e b1 o1 la ca b2 o2 lb cb S P) (ha : a < m) (hb : b < m) :
    Calls Try.prog 51 #[.agg #[.int .i64 m, .int .i64 e, .slice (some ⟨b1, o1, none⟩) la ca, .slice (some ⟨b2, o2, none⟩) lb cb], .int .i64 a, .int .i64 b] w fun e' w' => e' = .returned (.int .i64 (P (a * m + b))) ∧ Below w.heap.size w w' := by
  obtain ⟨hm, hm', he, hla, hlb, hca, hcb, ts, tp⟩ := hr
  have hc := ((tp.next ((Below.refl w.heap.size w).alloc (Nat.le_refl _) (.cells #[.int .i64 m, .int .i64 e, .slice (some ⟨b1, o1, none⟩) la ca, .slice (some ⟨b2, o2, none⟩) lb cb] 25))).2 _ (idx_lt ha hb)).1
  obtain ⟨g1, g2, g3, g4, g5⟩ := mul_nums hm' ha hb
  rw [← hlb] at g4 g5
  clear ts tp hla hlb
  go_enter Try.func51, Try.ntmps51
  go_wp2
  go_ret
  exact ⟨rfl, (Below.refl _ _).alloc (Nat.le_refl _) _⟩
set_option maxHeartbeats 400000 in
theorem sum_any (a b : Nat) (m e b1 o1 la ca b2 o2 lb cb : Nat) (S P : Nat → Nat) (w : World) (hr : RingAt w m e b1 o1 la ca b2 o2 lb cb S P) (ha : a < m) (hb : b < m) :
    Calls Try.prog 160 #[.agg #[.int .i64 m, .int .i64 e, .slice (some ⟨b1, o1, none⟩) la ca, .slice (some ⟨b2, o2, none⟩) lb cb], .int .i64 a, .int .i64 b] w fun e' w' => e' = .returned (.int .i64 (S (a * m + b))) ∧ Below w.heap.size w w' := by
  obtain ⟨hm, hm', he, hla, hlb, hca, hcb, ts, tp⟩ := hr
  have HS := Lib.hid ts
  have HL := Lib.hid hla
  clear ts tp hla hlb
  go_enter Try.func160, Try.ntmps160
  go_wp2_with (go_at_call 108; refine (row_any _ _ _ _ _ _ _ _ _ _ _ _ _ _ hm hm' ha HL.out hca).mono ?_; rintro e1 w1 ⟨rfl, hb1⟩; have hc := ((HS.out.next ((Below.refl _ _).alloc (Nat.le_refl _) _)).next hb1).at_ ha hb)
  go_ret
  exact ⟨rfl, ((Below.refl _ _).alloc (Nat.le_refl _) _).trans (hb1.mono (by simp))⟩
set_option maxHeartbeats 400000 in
theorem product_any (a b : Nat) (m e b1 o1 la ca b2 o2 lb cb : Nat) (S P : Nat → Nat) (w : World) (hr : RingAt w m e b1 o1 la ca b2 o2 lb cb S P) (ha : a < m) (hb : b < m) :
    Calls Try.prog 78 #[.agg #[.int .i64 m, .int .i64 e, .slice (some ⟨b1, o1, none⟩) la ca, .slice (some ⟨b2, o2, none⟩) lb cb], .int .i64 a, .int .i64 b] w fun e' w' => e' = .returned (.int .i64 (P (a * m + b))) ∧ Below w.heap.size w w' := by
  obtain ⟨hm, hm', he, hla, hlb, hca, hcb, ts, tp⟩ := hr
  have HS := Lib.hid tp
  have HL := Lib.hid hlb
  clear ts tp hla hlb
  go_enter Try.func78, Try.ntmps78
  go_wp2_with (go_at_call 108; refine (row_any _ _ _ _ _ _ _ _ _ _ _ _ _ _ hm hm' ha HL.out hcb).mono ?_; rintro e1 w1 ⟨rfl, hb1⟩; have hc := ((HS.out.next ((Below.refl _ _).alloc (Nat.le_refl _) _)).next hb1).at_ ha hb)
  go_ret
  exact ⟨rfl, ((Below.refl _ _).alloc (Nat.le_refl _) _).trans (hb1.mono (by simp))⟩

/-- The place of 0 in a row of sums. -/
def negN (m : Nat) (S : Nat → Nat) (a : Nat) : Int := idx (rowL m S a) 0
set_option maxHeartbeats 400000 in
theorem negative_any (a : Nat) (m e b1 o1 la ca b2 o2 lb cb : Nat) (S P : Nat → Nat) (w : World) (hr : RingAt w m e b1 o1 la ca b2 o2 lb cb S P) (ha : a < m) :
    Calls Try.prog 159 #[.agg #[.int .i64 m, .int .i64 e, .slice (some ⟨b1, o1, none⟩) la ca, .slice (some ⟨b2, o2, none⟩) lb cb], .int .i64 a] w fun e' w' => e' = .returned (.int .i64 (negN m S a)) ∧ Below w.heap.size w w' := by
  obtain ⟨hm, hm', he, hla, hlb, hca, hcb, ts, tp⟩ := hr
  have HS := Lib.hid ts
  have HL := Lib.hid hla
  clear ts tp hla hlb
  go_enter Try.func159, Try.ntmps159
  go_wp2_with (first
    | (go_at_call 108; refine (row_any _ _ _ _ _ _ _ _ _ _ _ _ _ _ hm hm' ha HL.out hca).mono ?_; rintro e1 w1 ⟨rfl, hb1⟩; have HR := Lib.hid (((HS.out.next ((Below.refl _ _).alloc (Nat.le_refl _) _)).next hb1).row ha))
    | (go_at_call 120; refine (index_any _ _ _ (rowL m S a) _ _ _ HR.out (by omega)).mono ?_; rintro e2 w2 ⟨rfl, rfl⟩))
  go_ret
  exact ⟨rfl, ((Below.refl _ _).alloc (Nat.le_refl _) _).trans (hb1.mono (by simp))⟩

end Go.Proofs.Ytlcpbdbdiahmjaa



/- The reading side's bounds: l1In, l1Elements, l1Shape. -/
namespace Go.Proofs.Ytlcpbdbdiahmjaa
open Go.RowKit

def inC (x lo hi : Int) : Bool := decide (lo ≤ x ∧ x ≤ hi)
theorem inC_true {x lo hi : Int} (h : lo ≤ x ∧ x ≤ hi) : inC x lo hi = true := decide_eq_true h
theorem inC_false {x lo hi : Int} (h : ¬ (lo ≤ x ∧ x ≤ hi)) : inC x lo hi = false := decide_eq_false h
theorem l1In_any (x lo hi : Int) (w : World) : Calls Try.prog 45 #[.int .i64 x, .int .i64 lo, .int .i64 hi] w fun e w' => e = .returned (.bool (inC x lo hi)) ∧ w = w' := by
  by_cases h1 : lo ≤ x
  · by_cases h2 : x ≤ hi
    · rw [inC_true ⟨h1, h2⟩]
      go_enter Try.func45, Try.ntmps45
      go_wp2
      go_ret
      exact ⟨rfl, rfl⟩
    · rw [inC_false (by omega)]
      go_enter Try.func45, Try.ntmps45
      go_wp2
      go_ret
      exact ⟨rfl, rfl⟩
  · rw [inC_false (by omega)]
    go_enter Try.func45, Try.ntmps45
    go_wp2
    go_ret
    exact ⟨rfl, rfl⟩

def elB (h : Int) (xs : List Int) : Bool := decide (∀ k, k < xs.length → inC (xs[k]?.getD 0) 0 h = true)
def ElTo (h : Int) (xs : List Int) (k : Nat) : Prop := ∀ j, j < k → inC (xs[j]?.getD 0) 0 h = true
theorem elB_true {h : Int} {xs : List Int} (g : ElTo h xs xs.length) : elB h xs = true := decide_eq_true g
theorem elB_false {h : Int} {xs : List Int} {k : Nat} (hk : k < xs.length) (g : inC (xs[k]?.getD 0) 0 h = false) : elB h xs = false := decide_eq_false fun f => by
  have := f k hk
  rw [g] at this
  cases this

set_option maxHeartbeats 400000 in
theorem l1Elements_any (n h : Int) (C : Option Addr) (len cap : Nat) (xs : List Int) (w : World) (B : Nat) (hh : wrap64 (n - 1) = h) (hx : Ints w B C len xs) (hl : len ≤ 9223372036854775807) :
    Calls Try.prog 74 #[.int .i64 n, .slice C len cap] w fun e w' => e = .returned (.bool (elB h xs)) ∧ w = w' := by
  have HX := Lib.hid hx
  clear hx
  go_enter Try.func74, Try.ntmps74
  go_wp2
  go_loop [9] (fun i => ∃ k : Nat, k ≤ len ∧ i = .int .i64 k ∧ ElTo h xs k) (fun i => len - (intOf i).toNat)
  case atStart => exact ⟨0, Nat.zero_le _, rfl, fun j hj => absurd hj (by omega)⟩
  case round =>
    obtain ⟨k, hk, rfl, hup⟩ := hrel
    have HU := Lib.hid hup
    clear hup
    by_cases hlt : k < len
    · obtain ⟨b, off, rfl, hbb, hc⟩ := HX.out.at_ hlt
      cases hq : inC (xs[k]?.getD 0) 0 h
      · go_wp2_with (go_at_call 45; refine (l1In_any _ _ _ _).mono ?_; rintro e1 w1 ⟨rfl, rfl⟩)
        go_ret
        exact ⟨ret_bool (elB_false (by rw [HX.out.1]; exact hlt) hq).symm, rfl⟩
      · go_wp2_with (go_at_call 45; refine (l1In_any _ _ _ _).mono ?_; rintro e1 w1 ⟨rfl, rfl⟩)
        go_round
        case rel => exact ⟨k + 1, by omega, by go_num, forall_succ HU.out hq⟩
        case measure => simp [intOf]; omega
    · go_wp2
      go_ret
      exact ⟨ret_bool (elB_true fun j hj => HU.out j (by rw [HX.out.1] at hj; omega)).symm, rfl⟩

/-- .. of a size that does not wrap: the numbers are elements. -/
theorem elB_allB {n : Int} {xs : List Int} : elB (n - 1) xs = allB n xs := by
  unfold elB allB
  refine decide_eq_decide.2 ⟨fun h k hk => ?_, fun h k hk => ?_⟩
  · have := of_decide_eq_true (h k hk); exact inB_true (by omega)
  · have := of_decide_eq_true (h k hk); exact inC_true (by omega)
theorem elB_one {n o : Int} : elB (n - 1) [o] = inB n o := by
  rw [elB_allB]
  unfold allB inB
  refine decide_eq_decide.2 ⟨fun h => of_decide_eq_true (h 0 (by simp)), fun h k hk => ?_⟩
  have : k = 0 := by simp at hk; omega
  subst this
  exact inB_true h
theorem wrap_in {n : Int} (h1 : -9223372036854775808 ≤ n) (h2 : n ≤ 9223372036854775807) : wrap64 n = n := IntWalk.wrap64_in n ⟨h1, h2⟩

set_option maxHeartbeats 1000000 in
theorem shape_low (n o : Int) (A B : Option Addr) (la ca lb cb : Nat) (w : World) (h : inC n 1 16 = false) :
    Calls Try.prog 106 #[.agg #[.int .i64 n, .int .i64 o, .slice A la ca, .slice B lb cb]] w fun e w' => e = .returned (.bool false) ∧ Below w.heap.size w w' := by
  go_enter Try.func106, Try.ntmps106
  go_wp2_with (go_at_call 45; refine (l1In_any _ _ _ _).mono ?_; rintro e1 w1 ⟨rfl, rfl⟩)
  go_ret
  exact ⟨rfl, (Below.refl _ _).alloc (Nat.le_refl _) _⟩

set_option maxHeartbeats 1000000 in
theorem shape_len (m : Nat) (o : Int) (A B : Option Addr) (la ca lb cb : Nat) (w : World) (h : inC m 1 16 = true) (h2 : m ≤ 16) (hl : ((la : Int) != m * m) = true) :
    Calls Try.prog 106 #[.agg #[.int .i64 m, .int .i64 o, .slice A la ca, .slice B lb cb]] w fun e w' => e = .returned (.bool false) ∧ Below w.heap.size w w' := by
  obtain ⟨s1, s2⟩ := sq_le h2
  go_enter Try.func106, Try.ntmps106
  go_wp2_with (go_at_call 45; refine (l1In_any _ _ _ _).mono ?_; rintro e1 w1 ⟨rfl, rfl⟩)
  go_ret
  exact ⟨rfl, (Below.refl _ _).alloc (Nat.le_refl _) _⟩
set_option maxHeartbeats 1000000 in
theorem shape_len2 (m : Nat) (o : Int) (A B : Option Addr) (la ca lb cb : Nat) (w : World) (h : inC m 1 16 = true) (h2 : m ≤ 16) (hl : ((la : Int) != m * m) = false) (hl2 : ((lb : Int) != m * m) = true) :
    Calls Try.prog 106 #[.agg #[.int .i64 m, .int .i64 o, .slice A la ca, .slice B lb cb]] w fun e w' => e = .returned (.bool false) ∧ Below w.heap.size w w' := by
  obtain ⟨s1, s2⟩ := sq_le h2
  go_enter Try.func106, Try.ntmps106
  go_wp2_with (go_at_call 45; refine (l1In_any _ _ _ _).mono ?_; rintro e1 w1 ⟨rfl, rfl⟩)
  go_ret
  exact ⟨rfl, (Below.refl _ _).alloc (Nat.le_refl _) _⟩

theorem ints_one {w : World} {v : Int} {T : TypeId} : Ints (w.alloc (.cells #[.int .i64 v] T)) (w.heap.size + 1) (some ⟨w.heap.size, 0, none⟩) 1 [v] := by
  refine ⟨rfl, fun _ => ⟨_, _, rfl, Nat.lt_succ_self _, fun k x hx => ?_⟩⟩
  have hk : k = 0 := by
    rcases k with _ | k
    · rfl
    · simp at hx
  subst hk
  simp at hx
  subst hx
  exact cell_of_row _ _ _ _ _ (0, 0) (heap_alloc_new w _)

set_option maxHeartbeats 2000000 in
theorem shape_all (m : Nat) (o : Int) (A B : Option Addr) (la ca lb cb : Nat) (X Y : List Int) (w : World) (h : inC m 1 16 = true) (h1 : 1 ≤ m) (h2 : m ≤ 16) (hl : ((la : Int) != m * m) = false) (hl2 : ((lb : Int) != m * m) = false)
    (hX : Ints w w.heap.size A la X) (hY : Ints w w.heap.size B lb Y) (hla : la ≤ 9223372036854775807) (hlb : lb ≤ 9223372036854775807) :
    Calls Try.prog 106 #[.agg #[.int .i64 m, .int .i64 o, .slice A la ca, .slice B lb cb]] w fun e w' => e = .returned (.bool (elB (m - 1) [o] && (elB (m - 1) X && elB (m - 1) Y))) ∧ Below w.heap.size w w' := by
  obtain ⟨s1, s2⟩ := sq_le h2
  have HX := Lib.hid ((hX.alloc (Nat.le_refl _) (.cells #[.int .i64 m, .int .i64 o, .slice A la ca, .slice B lb cb] 25)).alloc (by simp) (.cells #[.int .i64 o] 3))
  have HY := Lib.hid ((hY.alloc (Nat.le_refl _) (.cells #[.int .i64 m, .int .i64 o, .slice A la ca, .slice B lb cb] 25)).alloc (by simp) (.cells #[.int .i64 o] 3))
  have HW := Lib.hid (show wrap64 ((m : Int) - 1) = (m : Int) - 1 from wrap_in (by omega) (by omega))
  have HO := Lib.hid (show Ints ((w.alloc (.cells #[.int .i64 m, .int .i64 o, .slice A la ca, .slice B lb cb] 25)).alloc (.cells #[.int .i64 o] 3)) (w.heap.size + 2) (some ⟨w.heap.size + 1, 0, none⟩) 1 [o] by
    have := ints_one (w := w.alloc (.cells #[.int .i64 m, .int .i64 o, .slice A la ca, .slice B lb cb] 25)) (v := o) (T := 3)
    simpa using this)
  clear hX hY
  cases q1 : elB (m - 1) [o]
  · go_enter Try.func106, Try.ntmps106
    go_wp2_with (first
      | (go_at_call 45; refine (l1In_any _ _ _ _).mono ?_; rintro e1 w1 ⟨rfl, rfl⟩)
      | (go_at_call 74; ((with_reducible refine (l1Elements_any _ _ _ _ _ [o] _ _ HW.out HO.out (by omega)).mono ?_); rintro e2 w2 ⟨rfl, rfl⟩)))
    go_ret
    exact ⟨rfl, ((Below.refl _ _).alloc (Nat.le_refl _) _).alloc (by simp) _⟩
  cases q2 : elB (m - 1) X
  · go_enter Try.func106, Try.ntmps106
    go_wp2_with (first
      | (go_at_call 45; refine (l1In_any _ _ _ _).mono ?_; rintro e1 w1 ⟨rfl, rfl⟩)
      | (go_at_call 74; ((with_reducible refine (l1Elements_any _ _ _ _ _ [o] _ _ HW.out HO.out (by omega)).mono ?_); rintro e2 w2 ⟨rfl, rfl⟩))
      | (go_at_call 74; ((with_reducible refine (l1Elements_any _ _ _ _ _ X _ _ HW.out HX.out hla).mono ?_); rintro e2 w2 ⟨rfl, rfl⟩))
      | (go_at_call 74; ((with_reducible refine (l1Elements_any _ _ _ _ _ Y _ _ HW.out HY.out hlb).mono ?_); rintro e2 w2 ⟨rfl, rfl⟩)))
    go_ret
    exact ⟨rfl, ((Below.refl _ _).alloc (Nat.le_refl _) _).alloc (by simp) _⟩
  · go_enter Try.func106, Try.ntmps106
    go_wp2_with (first
      | (go_at_call 45; refine (l1In_any _ _ _ _).mono ?_; rintro e1 w1 ⟨rfl, rfl⟩)
      | (go_at_call 74; ((with_reducible refine (l1Elements_any _ _ _ _ _ [o] _ _ HW.out HO.out (by omega)).mono ?_); rintro e2 w2 ⟨rfl, rfl⟩))
      | (go_at_call 74; ((with_reducible refine (l1Elements_any _ _ _ _ _ X _ _ HW.out HX.out hla).mono ?_); rintro e2 w2 ⟨rfl, rfl⟩))
      | (go_at_call 74; ((with_reducible refine (l1Elements_any _ _ _ _ _ Y _ _ HW.out HY.out hlb).mono ?_); rintro e2 w2 ⟨rfl, rfl⟩)))
    go_ret
    exact ⟨rfl, ((Below.refl _ _).alloc (Nat.le_refl _) _).alloc (by simp) _⟩

/-- The bounds of a ring's tables, by the reading side: the same. -/
theorem l1Shape_any (n o : Int) (A B : Option Addr) (la ca lb cb : Nat) (X Y : List Int) (w : World)
    (hX : Ints w w.heap.size A la X) (hY : Ints w w.heap.size B lb Y) (hla : la ≤ 9223372036854775807) (hlb : lb ≤ 9223372036854775807) :
    Calls Try.prog 106 #[.agg #[.int .i64 n, .int .i64 o, .slice A la ca, .slice B lb cb]] w fun e w' => e = .returned (.bool (fitsB n o X Y)) ∧ Below w.heap.size w w' := by
  have hXl := hX.1
  have hYl := hY.1
  by_cases h1 : 1 ≤ n
  · by_cases h2 : n ≤ 16
    · obtain ⟨m, rfl⟩ := Int.eq_ofNat_of_zero_le (show 0 ≤ n by omega)
      have hi : inC m 1 16 = true := inC_true ⟨h1, h2⟩
      by_cases h3 : (la : Int) = m * m
      · by_cases h4 : (lb : Int) = m * m
        · have hf : fitsB m o X Y = (elB (m - 1) [o] && (elB (m - 1) X && elB (m - 1) Y)) := by
            unfold fitsB
            rw [decide_eq_true h1, decide_eq_true h2, hXl, hYl, eq4_true ⟨rfl, rfl, h3, h4⟩, elB_one, elB_allB, elB_allB]
            rfl
          rw [hf]
          exact shape_all m o A B la ca lb cb X Y w hi (by omega) (by omega) (by rw [bne_eq_false_iff_eq]; exact h3) (by rw [bne_eq_false_iff_eq]; exact h4) hX hY hla hlb
        · have hf : fitsB m o X Y = false := by
            unfold fitsB
            rw [hXl, hYl, eq4_false (fun h => h4 h.2.2.2)]
            simp
          rw [hf]
          exact shape_len2 m o A B la ca lb cb w hi (by omega) (by rw [bne_eq_false_iff_eq]; exact h3) (by rw [bne_iff_ne]; exact h4)
      · have hf : fitsB m o X Y = false := by
          unfold fitsB
          rw [hXl, hYl, eq4_false (fun h => h3 h.2.2.1)]
          simp
        rw [hf]
        exact shape_len m o A B la ca lb cb w hi (by omega) (by rw [bne_iff_ne]; exact h3)
    · have hf : fitsB n o X Y = false := by
        unfold fitsB
        rw [decide_eq_false h2]
        simp
      rw [hf]
      exact shape_low n o A B la ca lb cb w (inC_false (by omega))
  · have hf : fitsB n o X Y = false := by
      unfold fitsB
      rw [decide_eq_false h1]
      simp
    rw [hf]
    exact shape_low n o A B la ca lb cb w (inC_false (by omega))

end Go.Proofs.Ytlcpbdbdiahmjaa



/- The reading side's laws of one or two elements: l1Pairs. -/
namespace Go.Proofs.Ytlcpbdbdiahmjaa
open Go.RowKit

theorem RingAt.ext {w : World} {m e b1 o1 la ca b2 o2 lb cb : Nat} {S P : Nat → Nat} (h : RingAt w m e b1 o1 la ca b2 o2 lb cb S P) (u : Ext w) : RingAt (ext w u) m e b1 o1 la ca b2 o2 lb cb S P := h.next (ext_below w u)
theorem l1Add_zero (a : Nat) (m e b1 o1 la ca b2 o2 lb cb : Nat) (S P : Nat → Nat) (w : World) (hr : RingAt w m e b1 o1 la ca b2 o2 lb cb S P) (ha : a < m) :
    Calls Try.prog 52 #[.agg #[.int .i64 m, .int .i64 e, .slice (some ⟨b1, o1, none⟩) la ca, .slice (some ⟨b2, o2, none⟩) lb cb], .int .i64 a, .int .i64 0] w fun e' w' => e' = .returned (.int .i64 (S (a * m))) ∧ Below w.heap.size w w' := by
  have := l1Add_any a 0 m e b1 o1 la ca b2 o2 lb cb S P w hr ha (by have := hr.hm; omega)
  exact this

def Sym2 (m : Nat) (S P : Nat → Nat) (a b : Nat) : Prop := S (a * m + b) = S (b * m + a) ∧ P (a * m + b) = P (b * m + a)
def SymTo (m : Nat) (S P : Nat → Nat) (a k : Nat) : Prop := ∀ b, b < k → Sym2 m S P a b
def hit (m : Nat) (S : Nat → Nat) (a k : Nat) : Bool := decide (∃ j, j < k ∧ S (a * m + j) = 0)
theorem hit_zero {m : Nat} {S : Nat → Nat} {a : Nat} : hit m S a 0 = false := decide_eq_false (by rintro ⟨j, hj, _⟩; omega)
theorem hit_yes {m : Nat} {S : Nat → Nat} {a k : Nat} (h : hit m S a k = true) : hit m S a (k + 1) = true := by
  obtain ⟨j, hj, h0⟩ := of_decide_eq_true h
  exact decide_eq_true ⟨j, by omega, h0⟩
theorem hit_no {m : Nat} {S : Nat → Nat} {a k : Nat} (h : hit m S a k = false) : hit m S a (k + 1) = (((S (a * m + k) : Nat) : Int) == 0) := by
  have h1 := of_decide_eq_false h
  by_cases h0 : S (a * m + k) = 0
  · rw [show (((S (a * m + k) : Nat) : Int) == 0) = true by rw [beq_iff_eq]; omega]
    exact decide_eq_true ⟨k, by omega, h0⟩
  · rw [show (((S (a * m + k) : Nat) : Int) == 0) = false by rw [beq_eq_false_iff_ne]; omega]
    refine decide_eq_false ?_
    rintro ⟨j, hj, g⟩
    rcases Nat.lt_succ_iff_lt_or_eq.1 hj with h2 | rfl
    · exact h1 ⟨j, h2, g⟩
    · exact h0 g
def PairRow (m e : Nat) (S P : Nat → Nat) (a : Nat) : Prop := SymTo m S P a m ∧ hit m S a m = true ∧ S (a * m) = a ∧ P (a * m + e) = a
def PairTo (m e : Nat) (S P : Nat → Nat) (k : Nat) : Prop := ∀ a, a < k → PairRow m e S P a
noncomputable def pairB (m e : Nat) (S P : Nat → Nat) : Bool := propB (PairTo m e S P m)

set_option maxHeartbeats 4000000 in
theorem l1Pairs_any (m e b1 o1 la ca b2 o2 lb cb : Nat) (S P : Nat → Nat) (w : World) (hr : RingAt w m e b1 o1 la ca b2 o2 lb cb S P) :
    Calls Try.prog 107 #[.agg #[.int .i64 m, .int .i64 e, .slice (some ⟨b1, o1, none⟩) la ca, .slice (some ⟨b2, o2, none⟩) lb cb]] w fun e' w' => e' = .returned (.bool (pairB m e S P)) ∧ Below w.heap.size w w' := by
  have hm := hr.hm
  have hm' := hr.hm'
  have he := hr.he
  have HR := Lib.hid hr
  clear hr
  go_enter Try.func107, Try.ntmps107
  go_wp2
  go_loopg [8] m (fun g i wr => ∃ a : Nat, a ≤ m ∧ m ≤ a + g ∧ i = .int .i64 a ∧ PairTo m e S P a ∧ Below (w.heap.size + 1) (w.alloc (.cells #[.int .i64 m, .int .i64 e, .slice (some ⟨b1, o1, none⟩) la ca, .slice (some ⟨b2, o2, none⟩) lb cb] 25)) wr)
  case atStart => exact ⟨0, Nat.zero_le _, by omega, rfl, fun j hj => absurd hj (by omega), Below.refl _ _⟩
  case round =>
    obtain ⟨a, ha, hg, rfl, hup, hb⟩ := hrel
    have HU := Lib.hid hup
    obtain ⟨d0, d1, d2, d3, hs1⟩ := box4 hb
    have X1 := Lib.hid hb
    have R1 := Lib.hid (HR.out.next (below_of_box hb))
    clear hup hb
    by_cases hlt : a < m
    · obtain ⟨w0, rfl⟩ : ∃ w0 : World, w0 = wr := ⟨_, rfl⟩
      go_wp2
      obtain ⟨g1, hg1⟩ : ∃ g1 : Nat, g1 = gk := ⟨_, rfl⟩
      go_loopg [4, 13] m (fun g h i wr2 => ∃ c : Nat, c ≤ m ∧ m ≤ c + g ∧ h = .bool (hit m S a c) ∧ i = .int .i64 c ∧ SymTo m S P a c ∧ Below w0.heap.size w0 wr2)
      case atStart => exact ⟨0, Nat.zero_le _, by omega, by rw [hit_zero], rfl, fun j hj => absurd hj (by omega), Below.refl _ _⟩
      case round =>
        obtain ⟨c, hcm, hgc, rfl, rfl, hup2, hb2⟩ := hrel
        obtain ⟨f0, f1, f2, f3, hs2⟩ := box4_next hb2 hs1 d0 d1 d2 d3
        have X2 := Lib.hid hb2
        have R2 := Lib.hid (R1.out.next hb2)
        have HU2 := Lib.hid hup2
        clear hb2 hup2
        by_cases hlt2 : c < m
        · by_cases hS : S (a * m + c) = S (c * m + a)
          · by_cases hP : P (a * m + c) = P (c * m + a)
            · have HSP := Lib.hid (show Sym2 m S P a c from ⟨hS, hP⟩)
              have tS : (((S (a * m + c) : Nat) : Int) != ((S (c * m + a) : Nat) : Int)) = false := by rw [bne_eq_false_iff_eq]; omega
              have tP : (((P (a * m + c) : Nat) : Int) != ((P (c * m + a) : Nat) : Int)) = false := by rw [bne_eq_false_iff_eq]; omega
              have hS1 : S (a * m + c) ≤ S (c * m + a) := by omega
              have hS2 : S (c * m + a) ≤ S (a * m + c) := by omega
              have hP1 : P (a * m + c) ≤ P (c * m + a) := by omega
              have hP2 : P (c * m + a) ≤ P (a * m + c) := by omega
              clear hS hP
              go_wp2
              refine wp_region_ext (by kernel_rfl) (by kernel_rfl) ?_
              repeat (go_big_quiet_step (((first
                | (go_at_call 52; ((with_reducible refine calls_ext (l1Add_any a c m e b1 o1 la ca b2 o2 lb cb S P _ (R2.out.ext _) hlt hlt2))))
                | (go_at_call 52; ((with_reducible refine calls_ext (l1Add_any c a m e b1 o1 la ca b2 o2 lb cb S P _ (R2.out.ext _) hlt2 hlt))))
                | (go_at_call 51; ((with_reducible refine calls_ext (l1Mul_any a c m e b1 o1 la ca b2 o2 lb cb S P _ (R2.out.ext _) hlt hlt2))))
                | (go_at_call 51; ((with_reducible refine calls_ext (l1Mul_any c a m e b1 o1 la ca b2 o2 lb cb S P _ (R2.out.ext _) hlt2 hlt))))))))
              refine wpQuiet_nil ?_
              intro w3 hb3
              obtain ⟨k0, k1, k2, k3, hs3⟩ := box4_next hb3 (by omega) (w1 := w3) f0 f1 f2 f3
              have X3 := Lib.hid (X2.out.trans (hb3.mono (by omega)))
              have R3 := Lib.hid (R2.out.next hb3)
              clear hb3
              cases hh : hit m S a c
              · have HH := Lib.hid hh
                clear hh
                go_wp2_with (go_at_call 52; ((with_reducible refine (l1Add_any a c m e b1 o1 la ca b2 o2 lb cb S P _ R3.out hlt hlt2).mono ?_); rintro e4 w4 ⟨rfl, hb4⟩; have X4 := Lib.hid (X3.out.trans (hb4.mono (by omega))); clear hb4))
                go_roundg (m - (c + 1))
                case measure => omega
                case rel => exact ⟨c + 1, by omega, by omega, by rw [hit_no HH.out], by go_num, forall_succ HU2.out HSP.out, X4.out⟩
              · have HH := Lib.hid hh
                clear hh
                go_wp2
                go_roundg (m - (c + 1))
                case measure => omega
                case rel => exact ⟨c + 1, by omega, by omega, by rw [hit_yes HH.out], by go_num, forall_succ HU2.out HSP.out, X3.out⟩
            · have tS : (((S (a * m + c) : Nat) : Int) != ((S (c * m + a) : Nat) : Int)) = false := by rw [bne_eq_false_iff_eq]; omega
              have tP : (((P (a * m + c) : Nat) : Int) != ((P (c * m + a) : Nat) : Int)) = true := by rw [bne_iff_ne]; omega
              have hS1 : S (a * m + c) ≤ S (c * m + a) := by omega
              have hS2 : S (c * m + a) ≤ S (a * m + c) := by omega
              clear hS
              go_wp2
              refine wp_region_ext (by kernel_rfl) (by kernel_rfl) ?_
              repeat (go_big_quiet_step (((first
                | (go_at_call 52; ((with_reducible refine calls_ext (l1Add_any a c m e b1 o1 la ca b2 o2 lb cb S P _ (R2.out.ext _) hlt hlt2))))
                | (go_at_call 52; ((with_reducible refine calls_ext (l1Add_any c a m e b1 o1 la ca b2 o2 lb cb S P _ (R2.out.ext _) hlt2 hlt))))
                | (go_at_call 51; ((with_reducible refine calls_ext (l1Mul_any a c m e b1 o1 la ca b2 o2 lb cb S P _ (R2.out.ext _) hlt hlt2))))
                | (go_at_call 51; ((with_reducible refine calls_ext (l1Mul_any c a m e b1 o1 la ca b2 o2 lb cb S P _ (R2.out.ext _) hlt2 hlt))))))))
              refine wpQuiet_nil ?_
              intro w3 hb3
              obtain ⟨k0, k1, k2, k3, hs3⟩ := box4_next hb3 (by omega) (w1 := w3) f0 f1 f2 f3
              have X3 := Lib.hid (X2.out.trans (hb3.mono (by omega)))
              have R3 := Lib.hid (R2.out.next hb3)
              clear hb3
              go_wp2
              go_ret
              exact ⟨ret_bool (propB_false fun g => hP ((g a hlt).1 c hlt2).2).symm, (below_of_box X1.out).trans (X3.out.mono (by omega))⟩
          · have tS : (((S (a * m + c) : Nat) : Int) != ((S (c * m + a) : Nat) : Int)) = true := by rw [bne_iff_ne]; omega
            go_wp2
            refine wp_region_ext (by kernel_rfl) (by kernel_rfl) ?_
            repeat (go_big_quiet_step (((first
              | (go_at_call 52; ((with_reducible refine calls_ext (l1Add_any a c m e b1 o1 la ca b2 o2 lb cb S P _ (R2.out.ext _) hlt hlt2))))
              | (go_at_call 52; ((with_reducible refine calls_ext (l1Add_any c a m e b1 o1 la ca b2 o2 lb cb S P _ (R2.out.ext _) hlt2 hlt))))
              | (go_at_call 51; ((with_reducible refine calls_ext (l1Mul_any a c m e b1 o1 la ca b2 o2 lb cb S P _ (R2.out.ext _) hlt hlt2))))
              | (go_at_call 51; ((with_reducible refine calls_ext (l1Mul_any c a m e b1 o1 la ca b2 o2 lb cb S P _ (R2.out.ext _) hlt2 hlt))))))))
            refine wpQuiet_nil ?_
            intro w3 hb3
            obtain ⟨k0, k1, k2, k3, hs3⟩ := box4_next hb3 (by omega) (w1 := w3) f0 f1 f2 f3
            have X3 := Lib.hid (X2.out.trans (hb3.mono (by omega)))
            have R3 := Lib.hid (R2.out.next hb3)
            clear hb3
            go_wp2
            go_ret
            exact ⟨ret_bool (propB_false fun g => hS ((g a hlt).1 c hlt2).1).symm, (below_of_box X1.out).trans (X3.out.mono (by omega))⟩
        · have hcm' : hit m S a c = hit m S a m := by rw [show c = m by omega]
          have HC := Lib.hid hcm'
          clear hcm'
          cases hh : hit m S a c
          · have HH := Lib.hid hh
            clear hh
            go_wp2
            go_ret
            exact ⟨ret_bool (propB_false fun g => by have := (g a hlt).2.1; rw [← HC.out, HH.out] at this; cases this).symm, (below_of_box X1.out).trans (X2.out.mono (by omega))⟩
          · have HH := Lib.hid hh
            clear hh
            by_cases hz : S (a * m) = a
            · by_cases ho : P (a * m + e) = a
              · have HZ := Lib.hid hz
                have HO := Lib.hid ho
                have z1 : S (a * m) ≤ a := by omega
                have z2 : a ≤ S (a * m) := by omega
                have z3 : P (a * m + e) ≤ a := by omega
                have z4 : a ≤ P (a * m + e) := by omega
                have tz : (((S (a * m) : Nat) : Int) != (a : Int)) = false := by rw [bne_eq_false_iff_eq]; omega
                have to' : (((P (a * m + e) : Nat) : Int) != (a : Int)) = false := by rw [bne_eq_false_iff_eq]; omega
                clear hz ho
                go_wp2_with (first | (go_at_call 52; ((with_reducible refine (l1Add_zero a m e b1 o1 la ca b2 o2 lb cb S P _ R2.out hlt).mono ?_); rintro e4 w4 ⟨rfl, hb4⟩; obtain ⟨k0, k1, k2, k3, hs3⟩ := box4_next hb4 (by omega) f0 f1 f2 f3; have X4 := Lib.hid (X2.out.trans (hb4.mono (by omega))); have R4 := Lib.hid (R2.out.next hb4); clear hb4)) | (go_at_call 51; ((with_reducible refine (l1Mul_any a e m e b1 o1 la ca b2 o2 lb cb S P _ R4.out hlt he).mono ?_); rintro e5 w5 ⟨rfl, hb5⟩; have X5 := Lib.hid (X4.out.trans (hb5.mono (by omega))); clear hb5)))
                go_roundg (m - (a + 1))
                case measure => omega
                case rel => exact ⟨a + 1, by omega, by omega, by go_num, forall_succ HU.out ⟨fun j hj => HU2.out j (by omega), HC.out.symm.trans HH.out, HZ.out, HO.out⟩, X1.out.trans (X5.out.mono (by omega))⟩
              · have z1 : S (a * m) ≤ a := by omega
                have z2 : a ≤ S (a * m) := by omega
                have tz : (((S (a * m) : Nat) : Int) != (a : Int)) = false := by rw [bne_eq_false_iff_eq]; omega
                have to' : (((P (a * m + e) : Nat) : Int) != (a : Int)) = true := by rw [bne_iff_ne]; omega
                clear hz
                go_wp2_with (first | (go_at_call 52; ((with_reducible refine (l1Add_zero a m e b1 o1 la ca b2 o2 lb cb S P _ R2.out hlt).mono ?_); rintro e4 w4 ⟨rfl, hb4⟩; obtain ⟨k0, k1, k2, k3, hs3⟩ := box4_next hb4 (by omega) f0 f1 f2 f3; have X4 := Lib.hid (X2.out.trans (hb4.mono (by omega))); have R4 := Lib.hid (R2.out.next hb4); clear hb4)) | (go_at_call 51; ((with_reducible refine (l1Mul_any a e m e b1 o1 la ca b2 o2 lb cb S P _ R4.out hlt he).mono ?_); rintro e5 w5 ⟨rfl, hb5⟩; have X5 := Lib.hid (X4.out.trans (hb5.mono (by omega))); clear hb5)))
                go_ret
                exact ⟨ret_bool (propB_false fun g => ho (g a hlt).2.2.2).symm, (below_of_box X1.out).trans (X5.out.mono (by omega))⟩
            · have tz : (((S (a * m) : Nat) : Int) != (a : Int)) = true := by rw [bne_iff_ne]; omega
              go_wp2_with (first | (go_at_call 52; ((with_reducible refine (l1Add_zero a m e b1 o1 la ca b2 o2 lb cb S P _ R2.out hlt).mono ?_); rintro e4 w4 ⟨rfl, hb4⟩; obtain ⟨k0, k1, k2, k3, hs3⟩ := box4_next hb4 (by omega) f0 f1 f2 f3; have X4 := Lib.hid (X2.out.trans (hb4.mono (by omega))); have R4 := Lib.hid (R2.out.next hb4); clear hb4)))
              go_ret
              exact ⟨ret_bool (propB_false fun g => hz (g a hlt).2.2.1).symm, (below_of_box X1.out).trans (X4.out.mono (by omega))⟩
    · go_wp2
      go_ret
      exact ⟨ret_bool (propB_true fun j hj => HU.out j (by omega)).symm, below_of_box X1.out⟩

end Go.Proofs.Ytlcpbdbdiahmjaa



/- The reading side's RingValid: the same as the program's. -/
namespace Go.Proofs.Ytlcpbdbdiahmjaa
open Go.RowKit

def Trip (m : Nat) (S P : Nat → Nat) (a b c : Nat) : Prop := Law3 m S a b c ∧ Law3 m P a b c ∧ Dist3 m S P a b c
def TripAt (m : Nat) (S P : Nat → Nat) (j : Nat) : Prop := Trip m S P (j / m / m) (j / m % m) (j % m)
def TripTo (m : Nat) (S P : Nat → Nat) (k : Nat) : Prop := ∀ j, j < k → TripAt m S P j
noncomputable def tripB (m : Nat) (S P : Nat → Nat) : Bool := propB (TripTo m S P (m * m * m))
theorem cube_le {m : Nat} (hm' : m ≤ 16) : (m : Int) * m * m ≤ 4096 ∧ 0 ≤ (m : Int) * m * m ∧ (m : Int) * m * m = ((m * m * m : Nat) : Int) := by
  have h2 : m * m ≤ 16 * 16 := Nat.mul_le_mul hm' hm'
  have h3 : m * m * m ≤ 16 * 16 * 16 := Nat.mul_le_mul h2 hm'
  have e1 : (m : Int) * m * m = ((m * m * m : Nat) : Int) := by simp
  rw [e1]; omega
theorem parts_lt {m k : Nat} (hk : k < m * m * m) : k / m / m < m ∧ k / m % m < m ∧ k % m < m := by
  have hm : 0 < m := by
    rcases Nat.eq_zero_or_pos m with h | h
    · subst h; omega
    · exact h
  refine ⟨?_, Nat.mod_lt _ hm, Nat.mod_lt _ hm⟩
  rw [Nat.div_div_eq_div_mul]
  exact Nat.div_lt_of_lt_mul hk
theorem parts_int {m k : Nat} : (k : Int) / m / m = ((k / m / m : Nat) : Int) ∧ (k : Int) / m % m = ((k / m % m : Nat) : Int) ∧ (k : Int) % m = ((k % m : Nat) : Int) := by
  refine ⟨?_, ?_, ?_⟩ <;> simp
theorem trip_law {m : Nat} {S P : Nat → Nat} (h : TripTo m S P (m * m * m)) {a b c : Nat} (ha : a < m) (hb : b < m) (hc : c < m) : Trip m S P a b c := by
  have h1 := idx_lt ha hb
  have h2 : (a * m + b) * m + c < m * m * m := by
    have : (a * m + b + 1) * m ≤ m * m * m := Nat.mul_le_mul_right _ h1
    have : (a * m + b + 1) * m = (a * m + b) * m + m := Nat.succ_mul _ _
    omega
  have h3 := h _ h2
  have e1 : ((a * m + b) * m + c) / m = a * m + b := by
    rw [Nat.mul_comm, Nat.mul_add_div (by omega), Nat.div_eq_of_lt hc, Nat.add_zero]
  have e2 : (a * m + b) / m = a := by
    rw [Nat.mul_comm, Nat.mul_add_div (by omega), Nat.div_eq_of_lt hb, Nat.add_zero]
  have e3 : (a * m + b) % m = b := by
    rw [Nat.mul_comm, Nat.mul_add_mod, Nat.mod_eq_of_lt hb]
  have e4 : ((a * m + b) * m + c) % m = c := by
    rw [Nat.mul_comm, Nat.mul_add_mod, Nat.mod_eq_of_lt hc]
  unfold TripAt at h3
  rw [e1, e2, e3, e4] at h3
  exact h3

/-- The laws as the reading side asks them. -/
noncomputable def laws2B (m e : Nat) (S P : Nat → Nat) : Bool := pairB m e S P && tripB m S P

set_option maxHeartbeats 4000000 in
set_option maxRecDepth 100000 in
theorem trips_round (m e b1 o1 la ca b2 o2 lb cb : Nat) (S P : Nat → Nat) (w : World) (hr : RingAt w m e b1 o1 la ca b2 o2 lb cb S P) (X Y : List Int) (hX : Ints w w.heap.size (some ⟨b1, o1, none⟩) la X) (hY : Ints w w.heap.size (some ⟨b2, o2, none⟩) lb Y) (hf : fitsB m e X Y = true) :
    Calls Try.prog 75 #[.agg #[.int .i64 m, .int .i64 e, .slice (some ⟨b1, o1, none⟩) la ca, .slice (some ⟨b2, o2, none⟩) lb cb]] w fun e' w' => e' = .returned (.bool (laws2B m e S P)) ∧ Below w.heap.size w w' := by
  have hm := hr.hm
  have hm' := hr.hm'
  have hq : m * m ≤ 256 := Nat.mul_le_mul hm' hm'
  have hla' : la ≤ 9223372036854775807 := by rw [hr.hla]; omega
  have hlb' : lb ≤ 9223372036854775807 := by rw [hr.hlb]; omega
  obtain ⟨s1, s2⟩ := sq_le hm'
  obtain ⟨t1, t2, t3⟩ := cube_le hm'
  have HT3 := Lib.hid t3
  have HR := Lib.hid hr
  clear hr t3
  obtain ⟨c0, c1, c2, c3, hs⟩ := box4_new w (.int .i64 m) (.int .i64 e) (.slice (some ⟨b1, o1, none⟩) la ca) (.slice (some ⟨b2, o2, none⟩) lb cb) 25
  obtain ⟨W, hW⟩ : ∃ W, w.alloc (.cells #[.int .i64 m, .int .i64 e, .slice (some ⟨b1, o1, none⟩) la ca, .slice (some ⟨b2, o2, none⟩) lb cb] 25) = W := ⟨_, rfl⟩
  have HB := Lib.hid (show Below w.heap.size w W by subst hW; exact (Below.refl w.heap.size w).alloc (Nat.le_refl _) _)
  have H0X := Lib.hid (hX.next HB.out)
  have H0Y := Lib.hid (hY.next HB.out)
  have R0 := Lib.hid (HR.out.next HB.out)
  rw [hW] at c0 c1 c2 c3 hs
  have HW := Lib.hid hW
  clear hW hX hY
  unfold laws2B
  cases q1 : pairB m e S P
  · go_enter Try.func75, Try.ntmps75
    go_wp2_with (fail)
    rw [HW.out]
    go_wp2_with (first
      | (go_at_call 106; refine (l1Shape_any _ _ _ _ _ _ _ _ X Y _ H0X.out H0Y.out hla' hlb').mono ?_; rintro e1 w1 ⟨rfl, hb1⟩; obtain ⟨d0, d1, d2, d3, hs1⟩ := box4_next hb1 hs c0 c1 c2 c3; have X1 := Lib.hid (HB.out.trans (hb1.mono (by omega))); have R1 := Lib.hid (R0.out.next hb1); clear hb1)
      | (go_at_call 107; refine (l1Pairs_any m e b1 o1 la ca b2 o2 lb cb S P _ R1.out).mono ?_; rintro e2 w2 ⟨rfl, hb2⟩; obtain ⟨f0, f1, f2, f3, hs2⟩ := box4_next hb2 (by omega) d0 d1 d2 d3; have X2 := Lib.hid (X1.out.trans (hb2.mono (by omega))); have R2 := Lib.hid (R1.out.next hb2); clear hb2))
    go_ret
    exact ⟨rfl, X2.out⟩
  · go_enter Try.func75, Try.ntmps75
    go_wp2_with (fail)
    rw [HW.out]
    go_wp2_with (first
      | (go_at_call 106; refine (l1Shape_any _ _ _ _ _ _ _ _ X Y _ H0X.out H0Y.out hla' hlb').mono ?_; rintro e1 w1 ⟨rfl, hb1⟩; obtain ⟨d0, d1, d2, d3, hs1⟩ := box4_next hb1 hs c0 c1 c2 c3; have X1 := Lib.hid (HB.out.trans (hb1.mono (by omega))); have R1 := Lib.hid (R0.out.next hb1); clear hb1)
      | (go_at_call 107; refine (l1Pairs_any m e b1 o1 la ca b2 o2 lb cb S P _ R1.out).mono ?_; rintro e2 w2 ⟨rfl, hb2⟩; obtain ⟨f0, f1, f2, f3, hs2⟩ := box4_next hb2 (by omega) d0 d1 d2 d3; have X2 := Lib.hid (X1.out.trans (hb2.mono (by omega))); have R2 := Lib.hid (R1.out.next hb2); clear hb2))
    go_loopg [23] (m * m * m) (fun g i wr => ∃ k : Nat, k ≤ m * m * m ∧ m * m * m ≤ k + g ∧ i = .int .i64 k ∧ TripTo m S P k ∧ Below w2.heap.size w2 wr)
    case atStart => exact ⟨0, Nat.zero_le _, by omega, rfl, fun j hj => absurd hj (by omega), Below.refl _ _⟩
    case round =>
      obtain ⟨k, hk, hg, rfl, hup, hb⟩ := hrel
      have HU := Lib.hid hup
      obtain ⟨p0, p1, p2, p3, hs9⟩ := box4_next hb (by omega) f0 f1 f2 f3
      have X9 := Lib.hid (X2.out.trans (hb.mono (by omega)))
      have R9 := Lib.hid (R2.out.next hb)
      have B9 := Lib.hid hb
      clear hup hb
      by_cases hlt : (k : Int) < (m : Int) * m * m
      · have hlt' : k < m * m * m := by have := HT3.out; omega
        obtain ⟨pa, pb, pc⟩ := parts_lt hlt'
        obtain ⟨A, eA⟩ : ∃ A : Nat, A = k / m / m := ⟨_, rfl⟩
        obtain ⟨B, eB⟩ : ∃ B : Nat, B = k / m % m := ⟨_, rfl⟩
        obtain ⟨C, eC⟩ : ∃ C : Nat, C = k % m := ⟨_, rfl⟩
        obtain ⟨i1, i2, i3⟩ := parts_int (m := m) (k := k)
        rw [← eA] at pa i1
        rw [← eB] at pb i2
        rw [← eC] at pc i3
        have hA : A < m := pa
        have hB : B < m := pb
        have hC : C < m := pc
        have HK := Lib.hid (show TripAt m S P k ↔ Trip m S P A B C by unfold TripAt; rw [← eA, ← eB, ← eC])
        clear pa pb pc eA eB eC
        have hSAB := R9.out.ts.lt hA hB
        have hSBC := R9.out.ts.lt hB hC
        have hPAB := R9.out.tp.lt hA hB
        have hPBC := R9.out.tp.lt hB hC
        have hPAC := R9.out.tp.lt hA hC
        have n1 : 0 ≤ (k : Int) / m := Int.ediv_nonneg (by omega) (by omega)
        have n2 : (k : Int) / m ≤ k := Int.ediv_le_self _ (by omega)
        have hkk : k ≤ 4096 := by have := HT3.out; omega
        have I1 := Lib.hid i1
        have I2 := Lib.hid i2
        have I3 := Lib.hid i3
        clear i1 i2 i3
        go_wp2
        go_quiet (fail)
        have hq9 : wr.heap.size ≤ (wr.drewN nq).heap.size := Nat.le_refl _
        rw [I1.out, I2.out, I3.out]
        have X10 := Lib.hid (below_drewN X9.out nq)
        have B10 := Lib.hid (below_drewN B9.out nq)
        have R10 := Lib.hid (R9.out.next (below_drewN (Below.refl _ _) nq))
        obtain ⟨w10, hw10⟩ : ∃ w10, wr.drewN nq = w10 := ⟨_, rfl⟩
        have hs10 : w.heap.size < w10.heap.size := by rw [← hw10]; exact Nat.lt_of_lt_of_le (by omega) hq9
        rw [hw10] at X10 B10 R10 ⊢
        have hsB10 : w2.heap.size ≤ w10.heap.size := B10.out.size
        obtain ⟨y0, y1, y2, y3⟩ : w10.cell? ⟨w.heap.size, 0, none⟩ = some (.int .i64 m) ∧ w10.cell? ⟨w.heap.size, 1, none⟩ = some (.int .i64 e) ∧ w10.cell? ⟨w.heap.size, 2, none⟩ = some (.slice (some ⟨b1, o1, none⟩) la ca) ∧ w10.cell? ⟨w.heap.size, 3, none⟩ = some (.slice (some ⟨b2, o2, none⟩) lb cb) := by
          rw [← hw10]; exact ⟨p0, p1, p2, p3⟩
        clear hw10 hq9
        go_wp2
        by_cases hSA : S (S (A * m + B) * m + C) = S (A * m + S (B * m + C))
        · have hSA1 : S (S (A * m + B) * m + C) ≤ S (A * m + S (B * m + C)) := by omega
          have hSA2 : S (A * m + S (B * m + C)) ≤ S (S (A * m + B) * m + C) := by omega
          have thSA : (((S (S (A * m + B) * m + C) : Nat) : Int) != ((S (A * m + S (B * m + C)) : Nat) : Int)) = false := by rw [bne_eq_false_iff_eq]; omega
          have HhSA := Lib.hid hSA
          clear hSA
          refine wp_region_ext (by kernel_rfl) (by kernel_rfl) ?_
          repeat (go_big_quiet_step (((first
                      | (go_at_call 52; ((with_reducible refine calls_ext (l1Add_any A B m e b1 o1 la ca b2 o2 lb cb S P _ (R10.out.ext _) hA hB))))
                      | (go_at_call 52; ((with_reducible refine calls_ext (l1Add_any (S (A * m + B)) C m e b1 o1 la ca b2 o2 lb cb S P _ (R10.out.ext _) hSAB hC))))
                      | (go_at_call 52; ((with_reducible refine calls_ext (l1Add_any B C m e b1 o1 la ca b2 o2 lb cb S P _ (R10.out.ext _) hB hC))))
                      | (go_at_call 52; ((with_reducible refine calls_ext (l1Add_any A (S (B * m + C)) m e b1 o1 la ca b2 o2 lb cb S P _ (R10.out.ext _) hA hSBC))))
                      | (go_at_call 52; ((with_reducible refine calls_ext (l1Add_any (P (A * m + B)) (P (A * m + C)) m e b1 o1 la ca b2 o2 lb cb S P _ (R10.out.ext _) hPAB hPAC))))
                      | (go_at_call 51; ((with_reducible refine calls_ext (l1Mul_any A B m e b1 o1 la ca b2 o2 lb cb S P _ (R10.out.ext _) hA hB))))
                      | (go_at_call 51; ((with_reducible refine calls_ext (l1Mul_any (P (A * m + B)) C m e b1 o1 la ca b2 o2 lb cb S P _ (R10.out.ext _) hPAB hC))))
                      | (go_at_call 51; ((with_reducible refine calls_ext (l1Mul_any B C m e b1 o1 la ca b2 o2 lb cb S P _ (R10.out.ext _) hB hC))))
                      | (go_at_call 51; ((with_reducible refine calls_ext (l1Mul_any A (P (B * m + C)) m e b1 o1 la ca b2 o2 lb cb S P _ (R10.out.ext _) hA hPBC))))
                      | (go_at_call 51; ((with_reducible refine calls_ext (l1Mul_any A (S (B * m + C)) m e b1 o1 la ca b2 o2 lb cb S P _ (R10.out.ext _) hA hSBC))))
                      | (go_at_call 51; ((with_reducible refine calls_ext (l1Mul_any A C m e b1 o1 la ca b2 o2 lb cb S P _ (R10.out.ext _) hA hC))))))))
          refine wpQuiet_nil ?_
          intro w11 hb
          obtain ⟨l0, l1, l2, l3, hs11⟩ := box4_next hb (by omega) (w1 := w11) y0 y1 y2 y3
          have X11 := Lib.hid (X10.out.trans (hb.mono (by omega)))
          have B11 := Lib.hid (B10.out.trans (hb.mono (by omega)))
          have R11 := Lib.hid (R10.out.next hb)
          clear hb
          go_wp2
          by_cases hPA : P (P (A * m + B) * m + C) = P (A * m + P (B * m + C))
          · have hPA1 : P (P (A * m + B) * m + C) ≤ P (A * m + P (B * m + C)) := by omega
            have hPA2 : P (A * m + P (B * m + C)) ≤ P (P (A * m + B) * m + C) := by omega
            have thPA : (((P (P (A * m + B) * m + C) : Nat) : Int) != ((P (A * m + P (B * m + C)) : Nat) : Int)) = false := by rw [bne_eq_false_iff_eq]; omega
            have HhPA := Lib.hid hPA
            clear hPA
            refine wp_region_ext (by kernel_rfl) (by kernel_rfl) ?_
            repeat (go_big_quiet_step (((first
                        | (go_at_call 52; ((with_reducible refine calls_ext (l1Add_any A B m e b1 o1 la ca b2 o2 lb cb S P _ (R11.out.ext _) hA hB))))
                        | (go_at_call 52; ((with_reducible refine calls_ext (l1Add_any (S (A * m + B)) C m e b1 o1 la ca b2 o2 lb cb S P _ (R11.out.ext _) hSAB hC))))
                        | (go_at_call 52; ((with_reducible refine calls_ext (l1Add_any B C m e b1 o1 la ca b2 o2 lb cb S P _ (R11.out.ext _) hB hC))))
                        | (go_at_call 52; ((with_reducible refine calls_ext (l1Add_any A (S (B * m + C)) m e b1 o1 la ca b2 o2 lb cb S P _ (R11.out.ext _) hA hSBC))))
                        | (go_at_call 52; ((with_reducible refine calls_ext (l1Add_any (P (A * m + B)) (P (A * m + C)) m e b1 o1 la ca b2 o2 lb cb S P _ (R11.out.ext _) hPAB hPAC))))
                        | (go_at_call 51; ((with_reducible refine calls_ext (l1Mul_any A B m e b1 o1 la ca b2 o2 lb cb S P _ (R11.out.ext _) hA hB))))
                        | (go_at_call 51; ((with_reducible refine calls_ext (l1Mul_any (P (A * m + B)) C m e b1 o1 la ca b2 o2 lb cb S P _ (R11.out.ext _) hPAB hC))))
                        | (go_at_call 51; ((with_reducible refine calls_ext (l1Mul_any B C m e b1 o1 la ca b2 o2 lb cb S P _ (R11.out.ext _) hB hC))))
                        | (go_at_call 51; ((with_reducible refine calls_ext (l1Mul_any A (P (B * m + C)) m e b1 o1 la ca b2 o2 lb cb S P _ (R11.out.ext _) hA hPBC))))
                        | (go_at_call 51; ((with_reducible refine calls_ext (l1Mul_any A (S (B * m + C)) m e b1 o1 la ca b2 o2 lb cb S P _ (R11.out.ext _) hA hSBC))))
                        | (go_at_call 51; ((with_reducible refine calls_ext (l1Mul_any A C m e b1 o1 la ca b2 o2 lb cb S P _ (R11.out.ext _) hA hC))))))))
            refine wpQuiet_nil ?_
            intro w12 hb
            obtain ⟨j0, j1, j2, j3, hs12⟩ := box4_next hb (by omega) (w1 := w12) l0 l1 l2 l3
            have X12 := Lib.hid (X11.out.trans (hb.mono (by omega)))
            have B12 := Lib.hid (B11.out.trans (hb.mono (by omega)))
            have R12 := Lib.hid (R11.out.next hb)
            clear hb
            go_wp2
            by_cases hDA : P (A * m + S (B * m + C)) = S (P (A * m + B) * m + P (A * m + C))
            · have hDA1 : P (A * m + S (B * m + C)) ≤ S (P (A * m + B) * m + P (A * m + C)) := by omega
              have hDA2 : S (P (A * m + B) * m + P (A * m + C)) ≤ P (A * m + S (B * m + C)) := by omega
              have thDA : (((P (A * m + S (B * m + C)) : Nat) : Int) != ((S (P (A * m + B) * m + P (A * m + C)) : Nat) : Int)) = false := by rw [bne_eq_false_iff_eq]; omega
              have HhDA := Lib.hid hDA
              clear hDA
              refine wp_region_ext (by kernel_rfl) (by kernel_rfl) ?_
              repeat (go_big_quiet_step (((first
                          | (go_at_call 52; ((with_reducible refine calls_ext (l1Add_any A B m e b1 o1 la ca b2 o2 lb cb S P _ (R12.out.ext _) hA hB))))
                          | (go_at_call 52; ((with_reducible refine calls_ext (l1Add_any (S (A * m + B)) C m e b1 o1 la ca b2 o2 lb cb S P _ (R12.out.ext _) hSAB hC))))
                          | (go_at_call 52; ((with_reducible refine calls_ext (l1Add_any B C m e b1 o1 la ca b2 o2 lb cb S P _ (R12.out.ext _) hB hC))))
                          | (go_at_call 52; ((with_reducible refine calls_ext (l1Add_any A (S (B * m + C)) m e b1 o1 la ca b2 o2 lb cb S P _ (R12.out.ext _) hA hSBC))))
                          | (go_at_call 52; ((with_reducible refine calls_ext (l1Add_any (P (A * m + B)) (P (A * m + C)) m e b1 o1 la ca b2 o2 lb cb S P _ (R12.out.ext _) hPAB hPAC))))
                          | (go_at_call 51; ((with_reducible refine calls_ext (l1Mul_any A B m e b1 o1 la ca b2 o2 lb cb S P _ (R12.out.ext _) hA hB))))
                          | (go_at_call 51; ((with_reducible refine calls_ext (l1Mul_any (P (A * m + B)) C m e b1 o1 la ca b2 o2 lb cb S P _ (R12.out.ext _) hPAB hC))))
                          | (go_at_call 51; ((with_reducible refine calls_ext (l1Mul_any B C m e b1 o1 la ca b2 o2 lb cb S P _ (R12.out.ext _) hB hC))))
                          | (go_at_call 51; ((with_reducible refine calls_ext (l1Mul_any A (P (B * m + C)) m e b1 o1 la ca b2 o2 lb cb S P _ (R12.out.ext _) hA hPBC))))
                          | (go_at_call 51; ((with_reducible refine calls_ext (l1Mul_any A (S (B * m + C)) m e b1 o1 la ca b2 o2 lb cb S P _ (R12.out.ext _) hA hSBC))))
                          | (go_at_call 51; ((with_reducible refine calls_ext (l1Mul_any A C m e b1 o1 la ca b2 o2 lb cb S P _ (R12.out.ext _) hA hC))))))))
              refine wpQuiet_nil ?_
              intro w13 hb
              obtain ⟨v0, v1, v2, v3, hs13⟩ := box4_next hb (by omega) (w1 := w13) j0 j1 j2 j3
              have X13 := Lib.hid (X12.out.trans (hb.mono (by omega)))
              have B13 := Lib.hid (B12.out.trans (hb.mono (by omega)))
              have R13 := Lib.hid (R12.out.next hb)
              clear hb
              go_wp2
              go_roundg (m * m * m - (k + 1))
              case measure => omega
              case rel => exact ⟨k + 1, by omega, by omega, by go_num, forall_succ HU.out (HK.out.2 ⟨HhSA.out, HhPA.out, HhDA.out⟩), B13.out⟩
            · have thDA : (((P (A * m + S (B * m + C)) : Nat) : Int) != ((S (P (A * m + B) * m + P (A * m + C)) : Nat) : Int)) = true := by rw [bne_iff_ne]; omega
              refine wp_region_ext (by kernel_rfl) (by kernel_rfl) ?_
              repeat (go_big_quiet_step (((first
                          | (go_at_call 52; ((with_reducible refine calls_ext (l1Add_any A B m e b1 o1 la ca b2 o2 lb cb S P _ (R12.out.ext _) hA hB))))
                          | (go_at_call 52; ((with_reducible refine calls_ext (l1Add_any (S (A * m + B)) C m e b1 o1 la ca b2 o2 lb cb S P _ (R12.out.ext _) hSAB hC))))
                          | (go_at_call 52; ((with_reducible refine calls_ext (l1Add_any B C m e b1 o1 la ca b2 o2 lb cb S P _ (R12.out.ext _) hB hC))))
                          | (go_at_call 52; ((with_reducible refine calls_ext (l1Add_any A (S (B * m + C)) m e b1 o1 la ca b2 o2 lb cb S P _ (R12.out.ext _) hA hSBC))))
                          | (go_at_call 52; ((with_reducible refine calls_ext (l1Add_any (P (A * m + B)) (P (A * m + C)) m e b1 o1 la ca b2 o2 lb cb S P _ (R12.out.ext _) hPAB hPAC))))
                          | (go_at_call 51; ((with_reducible refine calls_ext (l1Mul_any A B m e b1 o1 la ca b2 o2 lb cb S P _ (R12.out.ext _) hA hB))))
                          | (go_at_call 51; ((with_reducible refine calls_ext (l1Mul_any (P (A * m + B)) C m e b1 o1 la ca b2 o2 lb cb S P _ (R12.out.ext _) hPAB hC))))
                          | (go_at_call 51; ((with_reducible refine calls_ext (l1Mul_any B C m e b1 o1 la ca b2 o2 lb cb S P _ (R12.out.ext _) hB hC))))
                          | (go_at_call 51; ((with_reducible refine calls_ext (l1Mul_any A (P (B * m + C)) m e b1 o1 la ca b2 o2 lb cb S P _ (R12.out.ext _) hA hPBC))))
                          | (go_at_call 51; ((with_reducible refine calls_ext (l1Mul_any A (S (B * m + C)) m e b1 o1 la ca b2 o2 lb cb S P _ (R12.out.ext _) hA hSBC))))
                          | (go_at_call 51; ((with_reducible refine calls_ext (l1Mul_any A C m e b1 o1 la ca b2 o2 lb cb S P _ (R12.out.ext _) hA hC))))))))
              refine wpQuiet_nil ?_
              intro w13 hb
              obtain ⟨v0, v1, v2, v3, hs13⟩ := box4_next hb (by omega) (w1 := w13) j0 j1 j2 j3
              have X13 := Lib.hid (X12.out.trans (hb.mono (by omega)))
              have B13 := Lib.hid (B12.out.trans (hb.mono (by omega)))
              have R13 := Lib.hid (R12.out.next hb)
              clear hb
              go_wp2
              go_ret
              exact ⟨ret_bool (propB_false fun g => hDA (HK.out.1 (g k hlt')).2.2).symm, X13.out⟩
          · have thPA : (((P (P (A * m + B) * m + C) : Nat) : Int) != ((P (A * m + P (B * m + C)) : Nat) : Int)) = true := by rw [bne_iff_ne]; omega
            refine wp_region_ext (by kernel_rfl) (by kernel_rfl) ?_
            repeat (go_big_quiet_step (((first
                        | (go_at_call 52; ((with_reducible refine calls_ext (l1Add_any A B m e b1 o1 la ca b2 o2 lb cb S P _ (R11.out.ext _) hA hB))))
                        | (go_at_call 52; ((with_reducible refine calls_ext (l1Add_any (S (A * m + B)) C m e b1 o1 la ca b2 o2 lb cb S P _ (R11.out.ext _) hSAB hC))))
                        | (go_at_call 52; ((with_reducible refine calls_ext (l1Add_any B C m e b1 o1 la ca b2 o2 lb cb S P _ (R11.out.ext _) hB hC))))
                        | (go_at_call 52; ((with_reducible refine calls_ext (l1Add_any A (S (B * m + C)) m e b1 o1 la ca b2 o2 lb cb S P _ (R11.out.ext _) hA hSBC))))
                        | (go_at_call 52; ((with_reducible refine calls_ext (l1Add_any (P (A * m + B)) (P (A * m + C)) m e b1 o1 la ca b2 o2 lb cb S P _ (R11.out.ext _) hPAB hPAC))))
                        | (go_at_call 51; ((with_reducible refine calls_ext (l1Mul_any A B m e b1 o1 la ca b2 o2 lb cb S P _ (R11.out.ext _) hA hB))))
                        | (go_at_call 51; ((with_reducible refine calls_ext (l1Mul_any (P (A * m + B)) C m e b1 o1 la ca b2 o2 lb cb S P _ (R11.out.ext _) hPAB hC))))
                        | (go_at_call 51; ((with_reducible refine calls_ext (l1Mul_any B C m e b1 o1 la ca b2 o2 lb cb S P _ (R11.out.ext _) hB hC))))
                        | (go_at_call 51; ((with_reducible refine calls_ext (l1Mul_any A (P (B * m + C)) m e b1 o1 la ca b2 o2 lb cb S P _ (R11.out.ext _) hA hPBC))))
                        | (go_at_call 51; ((with_reducible refine calls_ext (l1Mul_any A (S (B * m + C)) m e b1 o1 la ca b2 o2 lb cb S P _ (R11.out.ext _) hA hSBC))))
                        | (go_at_call 51; ((with_reducible refine calls_ext (l1Mul_any A C m e b1 o1 la ca b2 o2 lb cb S P _ (R11.out.ext _) hA hC))))))))
            refine wpQuiet_nil ?_
            intro w12 hb
            obtain ⟨j0, j1, j2, j3, hs12⟩ := box4_next hb (by omega) (w1 := w12) l0 l1 l2 l3
            have X12 := Lib.hid (X11.out.trans (hb.mono (by omega)))
            have B12 := Lib.hid (B11.out.trans (hb.mono (by omega)))
            have R12 := Lib.hid (R11.out.next hb)
            clear hb
            go_wp2
            go_ret
            exact ⟨ret_bool (propB_false fun g => hPA (HK.out.1 (g k hlt')).2.1).symm, X12.out⟩
        · have thSA : (((S (S (A * m + B) * m + C) : Nat) : Int) != ((S (A * m + S (B * m + C)) : Nat) : Int)) = true := by rw [bne_iff_ne]; omega
          refine wp_region_ext (by kernel_rfl) (by kernel_rfl) ?_
          repeat (go_big_quiet_step (((first
                      | (go_at_call 52; ((with_reducible refine calls_ext (l1Add_any A B m e b1 o1 la ca b2 o2 lb cb S P _ (R10.out.ext _) hA hB))))
                      | (go_at_call 52; ((with_reducible refine calls_ext (l1Add_any (S (A * m + B)) C m e b1 o1 la ca b2 o2 lb cb S P _ (R10.out.ext _) hSAB hC))))
                      | (go_at_call 52; ((with_reducible refine calls_ext (l1Add_any B C m e b1 o1 la ca b2 o2 lb cb S P _ (R10.out.ext _) hB hC))))
                      | (go_at_call 52; ((with_reducible refine calls_ext (l1Add_any A (S (B * m + C)) m e b1 o1 la ca b2 o2 lb cb S P _ (R10.out.ext _) hA hSBC))))
                      | (go_at_call 52; ((with_reducible refine calls_ext (l1Add_any (P (A * m + B)) (P (A * m + C)) m e b1 o1 la ca b2 o2 lb cb S P _ (R10.out.ext _) hPAB hPAC))))
                      | (go_at_call 51; ((with_reducible refine calls_ext (l1Mul_any A B m e b1 o1 la ca b2 o2 lb cb S P _ (R10.out.ext _) hA hB))))
                      | (go_at_call 51; ((with_reducible refine calls_ext (l1Mul_any (P (A * m + B)) C m e b1 o1 la ca b2 o2 lb cb S P _ (R10.out.ext _) hPAB hC))))
                      | (go_at_call 51; ((with_reducible refine calls_ext (l1Mul_any B C m e b1 o1 la ca b2 o2 lb cb S P _ (R10.out.ext _) hB hC))))
                      | (go_at_call 51; ((with_reducible refine calls_ext (l1Mul_any A (P (B * m + C)) m e b1 o1 la ca b2 o2 lb cb S P _ (R10.out.ext _) hA hPBC))))
                      | (go_at_call 51; ((with_reducible refine calls_ext (l1Mul_any A (S (B * m + C)) m e b1 o1 la ca b2 o2 lb cb S P _ (R10.out.ext _) hA hSBC))))
                      | (go_at_call 51; ((with_reducible refine calls_ext (l1Mul_any A C m e b1 o1 la ca b2 o2 lb cb S P _ (R10.out.ext _) hA hC))))))))
          refine wpQuiet_nil ?_
          intro w11 hb
          obtain ⟨l0, l1, l2, l3, hs11⟩ := box4_next hb (by omega) (w1 := w11) y0 y1 y2 y3
          have X11 := Lib.hid (X10.out.trans (hb.mono (by omega)))
          have B11 := Lib.hid (B10.out.trans (hb.mono (by omega)))
          have R11 := Lib.hid (R10.out.next hb)
          clear hb
          go_wp2
          go_ret
          exact ⟨ret_bool (propB_false fun g => hSA (HK.out.1 (g k hlt')).1).symm, X11.out⟩
      · go_wp2
        go_ret
        exact ⟨ret_bool (propB_true fun j hj => HU.out j (by have := HT3.out; omega)).symm, X9.out⟩

end Go.Proofs.Ytlcpbdbdiahmjaa



/- The reading side's RingValid: the same Bool as the program's. -/
namespace Go.Proofs.Ytlcpbdbdiahmjaa
open Go.RowKit

theorem laws_iff {m e : Nat} {S P : Nat → Nat} : lawsB m e S P = true ↔ OpLaw m S 0 ∧ OpLaw m P e ∧ NegLaw m S ∧ DistLaw m S P := by
  unfold lawsB opB negB distB
  simp only [Bool.and_eq_true, propB_iff]
theorem laws2_iff {m e : Nat} {S P : Nat → Nat} : laws2B m e S P = true ↔ PairTo m e S P m ∧ TripTo m S P (m * m * m) := by
  unfold laws2B pairB tripB
  simp only [Bool.and_eq_true, propB_iff]
theorem neg_hit {m : Nat} {S : Nat → Nat} {a : Nat} : (0 : Int) ∈ rowL m S a ↔ hit m S a m = true := by
  have := rowL_mem (m := m) (T := S) (a := a) (v := 0)
  unfold hit
  rw [decide_eq_true_eq]
  exact this
theorem laws_same {m e : Nat} {S P : Nat → Nat} : laws2B m e S P = lawsB m e S P := by
  rw [Bool.eq_iff_iff, laws_iff, laws2_iff]
  constructor
  · rintro ⟨h1, h2⟩
    refine ⟨fun a ha => ⟨(h1 a ha).2.2.1, fun b hb => ⟨((h1 a ha).1 b hb).1, fun c hc => (trip_law h2 ha hb hc).1⟩⟩,
      fun a ha => ⟨(h1 a ha).2.2.2, fun b hb => ⟨((h1 a ha).1 b hb).2, fun c hc => (trip_law h2 ha hb hc).2.1⟩⟩,
      fun a ha => neg_hit.2 (h1 a ha).2.1, fun a ha b hb c hc => (trip_law h2 ha hb hc).2.2⟩
  · rintro ⟨h1, h2, h3, h4⟩
    refine ⟨fun a ha => ⟨fun b hb => ⟨((h1 a ha).2 b hb).1, ((h2 a ha).2 b hb).1⟩, neg_hit.1 (h3 a ha), (h1 a ha).1, (h2 a ha).1⟩, fun j hj => ?_⟩
    obtain ⟨pa, pb, pc⟩ := parts_lt hj
    exact ⟨((h1 _ pa).2 _ pb).2 _ pc, ((h2 _ pa).2 _ pb).2 _ pc, h4 _ pa _ pb _ pc⟩

set_option maxRecDepth 100000 in
theorem spec_no (n o : Int) (A B : Option Addr) (la ca lb cb : Nat) (X Y : List Int) (w : World)
    (hX : Ints w w.heap.size A la X) (hY : Ints w w.heap.size B lb Y) (hla : la ≤ 9223372036854775807) (hlb : lb ≤ 9223372036854775807) (hf : fitsB n o X Y = false) :
    Calls Try.prog 75 #[.agg #[.int .i64 n, .int .i64 o, .slice A la ca, .slice B lb cb]] w fun e w' => e = .returned (.bool false) ∧ Below w.heap.size w w' := by
  have HX := Lib.hid ((hX.alloc (Nat.le_refl _) (.cells #[.int .i64 n, .int .i64 o, .slice A la ca, .slice B lb cb] 25)).more (Nat.le_succ _))
  have HY := Lib.hid ((hY.alloc (Nat.le_refl _) (.cells #[.int .i64 n, .int .i64 o, .slice A la ca, .slice B lb cb] 25)).more (Nat.le_succ _))
  clear hX hY
  go_enter Try.func75, Try.ntmps75
  go_wp2_with (go_at_call 106; refine (l1Shape_any _ _ _ _ _ _ _ _ X Y _ (by simpa using HX.out) (by simpa using HY.out) hla hlb).mono ?_; rintro e w1 ⟨rfl, hb1⟩)
  go_ret
  exact ⟨rfl, ((Below.refl _ _).alloc (Nat.le_refl _) _).trans (hb1.mono (by simp))⟩

/-- The reading side's RingValid. -/
theorem specValid_any (n o : Int) (A B : Option Addr) (la ca lb cb : Nat) (X Y : List Int) (w : World)
    (hX : Ints w w.heap.size A la X) (hY : Ints w w.heap.size B lb Y) (hla : la ≤ 9223372036854775807) (hlb : lb ≤ 9223372036854775807) (hca : la ≤ ca) (hcb : lb ≤ cb) :
    Calls Try.prog 75 #[.agg #[.int .i64 n, .int .i64 o, .slice A la ca, .slice B lb cb]] w fun e w' => e = .returned (.bool (validB n o X Y)) ∧ Below w.heap.size w w' := by
  unfold validB
  cases hf : fitsB n o X Y
  · exact spec_no _ _ _ _ _ _ _ _ _ _ _ hX hY hla hlb hf
  · obtain ⟨m, e, rfl, rfl, hm, hm', he, h1, h2, h3, h4⟩ := fits_data hf
    obtain ⟨b1, off1, rfl, tS⟩ := tab_of_ints hX hm h1 h3
    obtain ⟨b2, off2, rfl, tT⟩ := tab_of_ints hY hm h2 h4
    have hr : RingAt w m e b1 off1 la ca b2 off2 lb cb (tabOf X) (tabOf Y) := ⟨hm, hm', he, by rw [← hX.1, h1], by rw [← hY.1, h2], hca, hcb, tS, tT⟩
    have := trips_round m e _ _ _ _ _ _ _ _ _ _ w hr X Y hX hY hf
    rw [laws_same] at this
    exact this

/-- What a valid ring is. -/
theorem valid_data {n o : Int} {X Y : List Int} {w : World} {A B : Option Addr} {la ca lb cb : Nat} (h : validB n o X Y = true) (hX : Ints w w.heap.size A la X) (hY : Ints w w.heap.size B lb Y) (hca : la ≤ ca) (hcb : lb ≤ cb) :
    ∃ m e b1 o1 b2 o2 : Nat, n = m ∧ o = e ∧ A = some ⟨b1, o1, none⟩ ∧ B = some ⟨b2, o2, none⟩ ∧ RingAt w m e b1 o1 la ca b2 o2 lb cb (tabOf X) (tabOf Y) ∧
      (OpLaw m (tabOf X) 0 ∧ OpLaw m (tabOf Y) e ∧ NegLaw m (tabOf X) ∧ DistLaw m (tabOf X) (tabOf Y)) ∧ X.length = m * m ∧ Y.length = m * m ∧
      (∀ k, k < m * m → X[k]?.getD 0 = (tabOf X k : Int) ∧ tabOf X k < m) ∧ (∀ k, k < m * m → Y[k]?.getD 0 = (tabOf Y k : Int) ∧ tabOf Y k < m) := by
  unfold validB at h
  rw [Bool.and_eq_true] at h
  obtain ⟨m, e, rfl, rfl, hm, hm', he, h1, h2, h3, h4⟩ := fits_data h.1
  obtain ⟨b1, off1, rfl, tS⟩ := tab_of_ints hX hm h1 h3
  obtain ⟨b2, off2, rfl, tT⟩ := tab_of_ints hY hm h2 h4
  exact ⟨m, e, b1, off1, b2, off2, rfl, rfl, rfl, rfl, ⟨hm, hm', he, by rw [← hX.1, h1], by rw [← hY.1, h2], hca, hcb, tS, tT⟩, laws_iff.1 h.2, h1, h2, h3, h4⟩

end Go.Proofs.Ytlcpbdbdiahmjaa

