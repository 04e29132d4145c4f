/- Texts of this seat in one: M2 G1 G2 R0 M3 M5 M7. -/
import Derived.Test.YtlcpbdbdiahmjaaMA
import Derived.StillTail
import Derived.Barred
import Derived.Test.YtlcpbdbdiahmjaaMB
import Derived.Maps.AppendAt
import Derived.OneCell
import Derived.Deep.AppendLies
import Derived.Deep.RegionLaw
import Derived.Laws.ResultCell
import Derived.Deep.OwnRows

/- Regions that draw their order and make blocks: one walk in the order of the text, the values of the makers as letters. -/
namespace Go.Proofs.Ytlcpbdbdiahmjaa
open Go.RowKit

/-- A function of the program that hands back one slot. -/
def Probe (P : Program) : Prop := ∃ (g : FuncId) (fn : Func) (d : Nat), P.funcs[g]? = some fn ∧ P.inits.idxOf? g = none ∧ fn.results = #[.tmp d] ∧ d < 64

/-- What a call hands back is told by where it begins. -/
theorem calls_det {P : Program} (hp : Probe P) {f : FuncId} {args : Array Value} {w : World} {u u' : Value} {A B : World → Prop}
    (h : Calls P f args w fun e w' => e = .returned u ∧ A w') (h' : Calls P f args w fun e w' => e = .returned u' ∧ B w') : u = u' := by
  obtain ⟨g, fn, d, hg, hi, hr, hd⟩ := hp
  let o : Oper := { dst := some d, op := .move (.const undef), type := 0, pos := "", after := #[], guard := none }
  let c : Frame := { fn := g, tmps := Array.replicate 64 undef, todo := [.inRegion #[o] [0]], defers := [], mode := .returning, kind := .normal }
  have key : ∀ {v : Value} {C : World → Prop}, Calls P f args w (fun e w' => e = .returned v ∧ C w') → ∃ n w1, runN P n (lone (Frame.enter P f args .normal) [c] w) = .ended (.done v) w1 := by
    intro v C hc
    obtain ⟨e, w1, fr, ⟨rfl, _⟩, ⟨n, hn⟩, hfn, hl⟩ := hc [c]
    have s1 := step_leave_returned (c := c) (cs := []) hl
    have hl2 : (c.finish v).leaving P w1 (.returned v) := by
      refine ⟨rfl, rfl, rfl, fn, hg, ?_⟩
      simp [Frame.finish, c, o, results, hr, hd]
    have s2 := step_leave_done hl2 hi
    refine ⟨n + 2, w1, ?_⟩
    rw [runN_add, hn]
    simp only [runN, s1, s2]
  obtain ⟨n, w1, h1⟩ := key h
  obtain ⟨n', w2, h2⟩ := key h'
  have := runN_same_end h1 h2
  injection this

section
variable {P : Program} {ops : Array Oper} {md : Region.Mode} {C : World → Prop} {mk : Nat → Bool} {Φ : Nat → Value → World → Prop} {vs : Nat → Value}

/-- The block that a slice or a pointer leads to. -/
def blockOf : Value → Option Nat
  | .slice (some a) _ _ => some a.block
  | .pointer (some a) => some a.block
  | _ => none
/-- A block that was made between two worlds. -/
def FreshIn (w w' : World) (u : Value) : Prop := ∀ b, blockOf u = some b → w.heap.size ≤ b ∧ b < w'.heap.size
/-- A maker: from each world of the class it yields some value, in a world that leaves all old memory alone and of which the fact holds. -/
def makesUpon (P : Program) (w : World) (F : Value → World → Prop) : Result Next → Prop
  | .ok (.value u) w' => Below w.heap.size w w' ∧ F u w' ∧ FreshIn w w' u
  | .ok (.enter f args) w' => w' = w ∧ Calls P f args w (fun e w'' => ∃ u, e = .returned u ∧ Below w.heap.size w w'' ∧ F u w'' ∧ FreshIn w w'' u)
  | _ => False
def makesAt (P : Program) (o : Oper) (a : Act) (w : World) (F : Value → World → Prop) : Prop := makesUpon P w F ((execOp a.eval o).run P w)

theorem quiet_det (hp : Probe P) {o : Oper} {a : Act} {C C' : World → Prop} {w : World} {v v' : Value} (h : o.quietAt P a C w v) (h' : o.quietAt P a C' w v') : v = v' := by
  unfold Oper.quietAt at h h'
  generalize (execOp a.eval o).run P w = r at *
  cases r with
  | ok n w' =>
    cases n <;> simp only [Oper.quietUpon] at h h'
    case value u => exact h.2.symm.trans h'.2
    case skip => exact h.2.trans h'.2.symm
    case enter f args => exact calls_det hp h.2 h'.2
  | halt x w' => simp only [Oper.quietUpon] at h

def YieldsV (P : Program) (ops : Array Oper) (C : World → Prop) (mk : Nat → Bool) (Φ : Nat → Value → World → Prop) (vs : Nat → Value) (i : Nat) (o : Oper) (v : Value) (a : Act) : Prop :=
  (mk i = true ∧ Region.wanted o (yielded ops a.tmps) = true ∧ (∀ w, C w → makesAt P o a w (Φ i)) ∧ v = vs i) ∨
  (mk i = false ∧ Region.wanted o (yielded ops a.tmps) = true ∧ ∀ w, C w → o.quietAt P a C w v) ∨
  (mk i = false ∧ Region.wanted o (yielded ops a.tmps) = false ∧ v = undef)
/-- Operation number i comes up. -/
def vOp (P : Program) (ops : Array Oper) (C : World → Prop) (mk : Nat → Bool) (Φ : Nat → Value → World → Prop) (vs : Nat → Value) (i : Nat) (K : Act → Prop) (a : Act) : Prop :=
  match ops[i]? with
  | none => K a
  | some o => ∃ v, YieldsV P ops C mk Φ vs i o v a ∧ K (a.put o.dst v)

theorem vOp_mono {i : Nat} {a : Act} {K K' : Act → Prop} (h : ∀ a, K a → K' a) (hh : vOp P ops C mk Φ vs i K a) : vOp P ops C mk Φ vs i K' a := by
  unfold vOp at *
  split
  · exact h _ (by simpa [*] using hh)
  · rename_i o ho
    simp only [ho] at hh
    obtain ⟨v, h1, h2⟩ := hh
    exact ⟨v, h1, h _ h2⟩
theorem YieldsV.vOp {i : Nat} {o : Oper} {v : Value} {a : Act} (hi : ops[i]? = some o) (hy : YieldsV P ops C mk Φ vs i o v a) {K : Act → Prop} (h : K (a.put o.dst v)) : vOp P ops C mk Φ vs i K a := by
  unfold Go.Proofs.Ytlcpbdbdiahmjaa.vOp
  simp only [hi]
  exact ⟨v, hy, h⟩
theorem yields_of_vOp {i : Nat} {o : Oper} {a : Act} {K : Act → Prop} (hi : ops[i]? = some o) (h : vOp P ops C mk Φ vs i K a) : ∃ v, YieldsV P ops C mk Φ vs i o v a ∧ K (a.put o.dst v) := by
  unfold vOp at h
  simpa only [hi] using h
theorem YieldsV.of_same {i : Nat} {o : Oper} {v : Value} {a a' : Act} (hy : YieldsV P ops C mk Φ vs i o v a) (he : execOp a'.eval o = execOp a.eval o)
    (hw : Region.wanted o (yielded ops a'.tmps) = Region.wanted o (yielded ops a.tmps)) : YieldsV P ops C mk Φ vs i o v a' := by
  unfold YieldsV Oper.quietAt makesAt at *
  rw [he, hw]
  exact hy
theorem vOp_put {i j : Nat} {oi oj : Oper} {v : Value} (hj : ops[j]? = some oj) (hap : oi.apart ops oj = true)
    (hsi : ∀ cs b, oi.op ≠ .select cs b) (hsj : ∀ cs b, oj.op ≠ .select cs b) {K : Act → Prop} {a : Act}
    (hy : YieldsV P ops C mk Φ vs i oi v a) (h : vOp P ops C mk Φ vs j K (a.put oi.dst v)) :
    vOp P ops C mk Φ vs j (fun a' => YieldsV P ops C mk Φ vs i oi v a' ∧ K (a'.put oi.dst v)) a := by
  obtain ⟨h1, h2, h3⟩ := Oper.apart_spec hap
  obtain ⟨u, hu, hn⟩ := yields_of_vOp hj h
  refine YieldsV.vOp hj (hu.of_same (execOp_put oj hsj a oi.dst v h1).symm (wanted_put oj a oi.dst v h1).symm) ⟨?_, ?_⟩
  · exact hy.of_same (execOp_put oi hsi a oj.dst u h3) (wanted_put oi a oj.dst u h3)
  · rw [← Act.put_comm a v u h2]; exact hn

/-- The walk in the order of the text. -/
def wpV (P : Program) (ops : Array Oper) (C : World → Prop) (mk : Nat → Bool) (Φ : Nat → Value → World → Prop) (vs : Nat → Value) (Q : Act → Prop) : Nat → List Oper → Act → Prop
  | _, [], a => Q a
  | k, o :: rest, a => ∃ v, YieldsV P ops C mk Φ vs k o v a ∧ wpV P ops C mk Φ vs Q (k + 1) rest (a.put o.dst v)

def wpAnyV (P : Program) (md : Region.Mode) (ops : Array Oper) (C : World → Prop) (mk : Nat → Bool) (Φ : Nat → Value → World → Prop) (vs : Nat → Value) (n : Nat) (L : Array Bool → Act → Prop) : Nat → Array Bool → Act → Prop
  | 0, listed, a => L listed a
  | f + 1, listed, a =>
    Region.ready md ops listed ≠ [] ∧ ∀ i ∈ Region.ready md ops listed, i < n ∧ vOp P ops C mk Φ vs i (wpAnyV P md ops C mk Φ vs n L f (listed.setIfInBounds i true)) a

theorem wpAnyV_first {n i : Nat} {oi : Oper} {v : Value} {L : Array Bool → Act → Prop} (hi : ops[i]? = some oi) (hsel : ∀ (j : Nat) (o : Oper) cs b, ops[j]? = some o → o.op ≠ .select cs b)
    (hs : Region.sinkB md ops n = true) (hc : Region.chainB md ops n = true) (hn : n < ops.size) (hin : i < n)
    (hdone : ∀ listed a, L listed a → ∀ j ∈ Region.ready md ops listed, n ≤ j) :
    ∀ (f : Nat) (listed : Array Bool) (a : Act), HeadInv md ops n listed →
      (∀ j oj, ops[j]? = some oj → j ≠ i → listed.getD j true = false → (∀ e ∈ oj.after, Region.binds md e = true → e.on ≠ i) → oi.apart ops oj = true) →
      i ∈ Region.ready md ops listed → YieldsV P ops C mk Φ vs i oi v a →
      wpAnyV P md ops C mk Φ vs n L f (listed.setIfInBounds i true) (a.put oi.dst v) → wpAnyV P md ops C mk Φ vs n L (f + 1) listed a := by
  intro f
  induction f with
  | zero =>
    intro listed a inv _ hr hy H
    have hun := (mem_ready.1 hr).1
    refine ⟨fun h => (by rw [h] at hr; cases hr), fun j hj => ?_⟩
    have hjn : j < n := by
      rcases Nat.lt_or_ge j n with h | h
      · exact h
      · exact absurd hj (tail_waits hs hc hn inv _ i rfl hin hun j h)
    refine ⟨hjn, ?_⟩
    by_cases hji : j = i
    · subst hji; exact hy.vOp hi H
    · have := hdone _ _ H j (ready_mono hj hji)
      omega
  | succ f ih =>
    intro listed a inv hfree hr hy H
    have hun := (mem_ready.1 hr).1
    refine ⟨fun h => (by rw [h] at hr; cases hr), fun j hj => ?_⟩
    have hjn : j < n := by
      rcases Nat.lt_or_ge j n with h | h
      · exact h
      · exact absurd hj (tail_waits hs hc hn inv _ i rfl hin hun j h)
    refine ⟨hjn, ?_⟩
    by_cases hji : j = i
    · subst hji; exact hy.vOp hi H
    · have h1 := (H.2 j (ready_mono hj hji)).2
      obtain ⟨hjun, oj, hoj, hall⟩ := mem_ready.1 hj
      have hnot : ∀ e ∈ oj.after, Region.binds md e = true → e.on ≠ i := fun e he hb heq => by
        have h1 := hall e he hb
        rw [heq, getD_both hun] at h1
        cases h1
      have h2 := vOp_put hoj (hfree j oj hoj hji hjun hnot) (fun cs b => hsel i oi cs b hi) (fun cs b => hsel j oj cs b hoj) hy h1
      have hfree' : ∀ k ok, ops[k]? = some ok → k ≠ i → (listed.setIfInBounds j true).getD k true = false →
          (∀ e ∈ ok.after, Region.binds md e = true → e.on ≠ i) → oi.apart ops ok = true := fun k ok hk hki hun hno => by
        refine hfree k ok hk hki ?_ hno
        by_cases hjk : j = k
        · subst hjk; exact hjun
        · rw [getD_set_ne true hjk] at hun; exact hun
      refine vOp_mono (fun a' h3 => ih (listed.setIfInBounds j true) a' (inv.set hj hjn) hfree' (ready_mono hr (Ne.symm hji)) h3.1 ?_) h2
      rw [Array.setIfInBounds_comm _ _ hji]
      exact h3.2

theorem wpAnyV_lex {n g : Nat} {Lq : Act → Prop} (hsel : Region.noSelect ops = true) (hs : Region.sinkB md ops n = true) (hc : Region.chainB md ops n = true) (hn : n < ops.size) :
    ∀ (l : List Oper) (k : Nat) (listed : Array Bool) (a : Act), (∀ j, j < l.length → l[j]? = ops[k + j]?) → k + l.length = n → HeadInv md ops n listed → (∀ j, j < k → listed.getD j false = true) →
    Region.lexHead md ops g l.length k listed = true → wpV P ops C mk Φ vs Lq k l a →
    wpAnyV P md ops C mk Φ vs n (fun listed' a' => Region.seqB md ops g n listed' = true ∧ (∀ j, j < n → listed'.getD j false = true) ∧ Lq a') l.length listed a
  | [], k, listed, a, _, hk, _, hall, hB, h => by
    have : k = n := by simpa using hk
    subst this
    exact ⟨by simpa [Region.lexHead] using hB, hall, h⟩
  | o :: l, k, listed, a, hl, hk, inv, hall, hB, h => by
    have h0 : ops[k]? = some o := by simpa using (hl 0 (by simp)).symm
    simp only [List.length_cons, Region.lexHead, Bool.and_eq_true] at hB
    obtain ⟨⟨hr, hf⟩, hB'⟩ := hB
    have hkn : k < n := by simp only [List.length_cons] at hk; omega
    have hr' : k ∈ Region.ready md ops listed := by simpa using hr
    obtain ⟨v, hy, hK⟩ := h
    have hsz : k < listed.size := by rw [inv.size]; omega
    have hall' : ∀ j, j < k + 1 → (listed.setIfInBounds k true).getD j false = true := fun j hj => by
      by_cases e : k = j
      · subst e; simp [hsz]
      · rw [getD_set_ne false e]; exact hall j (by omega)
    exact wpAnyV_first h0 (Region.noSelect_spec hsel) hs hc hn hkn (fun listed' a' hL => seqB_ready hL.1) l.length listed a inv (Region.free_spec h0 hf) hr' hy
      (wpAnyV_lex hsel hs hc hn l (k + 1) _ _ (fun j hj => by have := hl (j + 1) (by simp; omega); simpa [Nat.add_assoc, Nat.add_comm 1 j] using this) (by simp only [List.length_cons] at hk; omega) (inv.set hr' hkn) hall' hB' hK)

theorem wp_of_makes {o : Oper} {a : Act} {w : World} {F : Value → World → Prop} {K : Act → World → Prop} {Q' : Exit → Act → World → Prop} (hh : makesAt P o a w F)
    (h : ∀ u w', Below w.heap.size w w' → F u w' → FreshIn w w' u → K (a.put o.dst u) w') : o.wp P a w K Q' := by
  unfold makesAt at hh
  unfold Oper.wp
  generalize (execOp a.eval o).run P w = r at *
  cases r with
  | ok n w' =>
    cases n <;> simp only [makesUpon] at hh <;> simp only [Oper.upon]
    case value u => exact h _ _ hh.1 hh.2.1 hh.2.2
    case enter f args =>
      obtain ⟨e1, hc⟩ := hh
      rw [e1]
      exact hc.mono fun e w'' ⟨u, he, hb, hF, hfr⟩ => by subst he; exact h _ _ hb hF hfr
  | halt x w' => simp only [makesUpon] at hh
theorem wp_of_quietE {o : Oper} {a : Act} {w : World} {v : Value} {K : Act → World → Prop} {Q' : Exit → Act → World → Prop} (hh : o.quietAt P a (fun w' => ∃ u : Ext w, w' = ext w u) w v)
    (h : ∀ w', Below w.heap.size w w' → K (a.put o.dst v) w') : o.wp P a w K Q' := by
  unfold Oper.quietAt at hh
  unfold Oper.wp
  generalize (execOp a.eval o).run P w = r at *
  cases r with
  | ok n w' =>
    cases n <;> simp only [Oper.quietUpon] at hh <;> simp only [Oper.upon]
    case value u => obtain ⟨e1, e2⟩ := hh; rw [e1, e2]; exact h _ (Below.refl _ _)
    case skip => obtain ⟨e1, e2⟩ := hh; rw [e1, ← e2]; exact h _ (Below.refl _ _)
    case enter f args =>
      obtain ⟨e1, hc⟩ := hh
      rw [e1]
      exact hc.mono fun e w'' ⟨he, u, hu⟩ => by subst he; rw [hu]; exact h _ u.below
  | halt x w' => simp only [Oper.quietUpon] at hh
end

/-- The worlds that leave the old memory of this one alone. -/
abbrev extC (w : World) : World → Prop := fun w' => ∃ u : Ext w, w' = ext w u
theorem extC_of {w w' : World} (h : Below w.heap.size w w') : extC w w' := ⟨⟨w', h⟩, rfl⟩

section
variable {P : Program} {ops : Array Oper} {mk : Nat → Bool} {Φ : Nat → Value → World → Prop}

/-- The blocks that the makers that have come up lead to: all there, no two the same. -/
def ApartV (mk : Nat → Bool) (listed : Array Bool) (val : Nat → Value) (w : World) : Prop :=
  (∀ i, mk i = true → listed.getD i false = true → ∀ b, blockOf (val i) = some b → b < w.heap.size) ∧
  (∀ i j, i ≠ j → mk i = true → mk j = true → listed.getD i false = true → listed.getD j false = true → ∀ b, blockOf (val i) = some b → blockOf (val j) ≠ some b)
theorem ApartV.next {listed : Array Bool} {val : Nat → Value} {w w' : World} (h : ApartV mk listed val w) (hb : Below w.heap.size w w') : ApartV mk listed val w' :=
  ⟨fun i h1 h2 b h3 => Nat.lt_of_lt_of_le (h.1 i h1 h2 b h3) hb.size, h.2⟩
theorem ApartV.quiet {listed : Array Bool} {val : Nat → Value} {w : World} {i : Nat} (h : ApartV mk listed val w) (hi : mk i = false) : ApartV mk (listed.setIfInBounds i true) val w := by
  have back : ∀ j, mk j = true → (listed.setIfInBounds i true).getD j false = true → listed.getD j false = true := fun j hj hl => by
    rw [getD_set_ne false (fun e => by rw [← e, hi] at hj; cases hj)] at hl; exact hl
  exact ⟨fun j h1 h2 => h.1 j h1 (back j h1 h2), fun j k hne h1 h2 h3 h4 => h.2 j k hne h1 h2 (back j h1 h3) (back k h2 h4)⟩
theorem ApartV.made {listed : Array Bool} {val : Nat → Value} {w w' : World} {i : Nat} {u : Value} (h : ApartV mk listed val w) (hb : Below w.heap.size w w') (hf : FreshIn w w' u) :
    ApartV mk (listed.setIfInBounds i true) (fun j => if j = i then u else val j) w' := by
  have back : ∀ j, j ≠ i → (listed.setIfInBounds i true).getD j false = true → listed.getD j false = true := fun j hj hl => by
    rw [getD_set_ne false (Ne.symm hj)] at hl; exact hl
  refine ⟨fun j h1 h2 b h3 => ?_, fun j k hne h1 h2 h3 h4 b h5 h6 => ?_⟩
  · by_cases e : j = i
    · subst e; simp only [if_true] at h3; exact (hf b h3).2
    · simp only [e, if_false] at h3; exact Nat.lt_of_lt_of_le (h.1 j h1 (back j e h2) b h3) hb.size
  · by_cases e : j = i
    · have e' : k ≠ i := fun e2 => hne (e.trans e2.symm)
      simp only [e, if_true] at h5
      simp only [e', if_false] at h6
      have := h.1 k h2 (back k e' h4) b h6
      have := (hf b h5).1
      omega
    · simp only [e, if_false] at h5
      have l5 := h.1 j h1 (back j e h3) b h5
      by_cases e' : k = i
      · simp only [e', if_true] at h6
        have := (hf b h6).1
        omega
      · simp only [e', if_false] at h6
        exact h.2 j k hne h1 h2 (back j e h3) (back k e' h4) b h5 h6

theorem wpAny_of_V (hp : Probe P) {n g : Nat} {w0 : World} {L : (Nat → Value) → Array Bool → Act → Prop} {Q' : Exit → Act → World → Prop} {Sh : Nat → Value → Prop} (hΦ : ∀ i v w w', Φ i v w → Below w.heap.size w w' → Φ i v w') (hSh : ∀ i v w, mk i = true → Φ i v w → Sh i v)
    (hL : ∀ listed a w1 (val : Nat → Value), Below w0.heap.size w0 w1 → (∀ i, mk i = true → listed.getD i false = true → Φ i (val i) w1) → ApartV mk listed val w1 → L val listed a → wpAny P .any ops Q' g listed a w1) :
    ∀ (f : Nat) (listed : Array Bool) (a : Act) (w1 : World) (val : Nat → Value), (∀ i, mk i = true → Sh i (val i)) → Below w0.heap.size w0 w1 → (∀ i, mk i = true → listed.getD i false = true → Φ i (val i) w1) → ApartV mk listed val w1 →
      (∀ W, Below w0.heap.size w0 W → ∀ vs, (∀ i, mk i = true → Sh i (vs i)) → (∀ i, mk i = true → listed.getD i false = true → vs i = val i) → wpAnyV P .any ops (extC W) mk Φ vs n (L vs) f listed a) → wpAny P .any ops Q' (f + g) listed a w1
  | 0, listed, a, w1, val, hv, hb, hf, hap, h => by
    rw [Nat.zero_add]
    exact hL _ _ _ _ hb hf hap (h w0 (Below.refl _ _) val hv (fun _ _ _ => rfl))
  | f + 1, listed, a, w1, val, hv, hb, hf, hap, h => by
    rw [show f + 1 + g = (f + g) + 1 by omega]
    have h0 := h w1 hb val hv (fun _ _ _ => rfl)
    refine ⟨fun e => absurd e h0.1, fun i hi => ?_⟩
    have hun := (mem_ready.1 hi).1
    obtain ⟨oi, hoi, _⟩ := (mem_ready.1 hi).2
    have hne : ∀ j, listed.getD j false = true → j ≠ i := fun j hj e => by
      subst e
      rw [getD_both hun] at hj
      cases hj
    have hset : ∀ j, j ≠ i → (listed.setIfInBounds i true).getD j false = true → listed.getD j false = true := fun j hj e => by
      rw [getD_set_ne false (Ne.symm hj)] at e; exact e
    obtain ⟨v1, hy1, _⟩ := yields_of_vOp hoi (h0.2 i hi).2
    unfold wpOp
    simp only [hoi]
    rcases hy1 with ⟨hmk, hw, hm, _⟩ | ⟨hmk, hw, hq⟩ | ⟨hmk, hw, rfl⟩
    · rw [if_pos hw]
      refine .inl (wp_of_makes (hm w1 (extC_of (Below.refl _ _))) fun u w2 hb2 hu hfr => ?_)
      refine wpAny_of_V (n := n) hp hΦ hSh hL f _ _ w2 (fun j => if j = i then u else val j) (fun j hj => (by
        by_cases e : j = i
        · subst e; simp only [if_true]; exact hSh _ _ _ hj hu
        · simp only [e, if_false]; exact hv j hj)) (hb.trans (hb2.mono hb.size)) (fun j hj hl => ?_) (hap.made hb2 hfr) (fun W hW vs hvs hag => ?_)
      · by_cases e : j = i
        · subst e; simp only [if_true]; exact hu
        · simp only [e, if_false]; exact hΦ _ _ _ _ (hf j hj (hset j e hl)) hb2
      · have h1 := h W hW vs hvs (fun j hj hl => by
          have hji := hne j hl
          have := hag j hj (by rw [getD_set_ne false (Ne.symm hji)]; exact hl)
          simpa [hji] using this)
        obtain ⟨v2, hy2, hK⟩ := yields_of_vOp hoi (h1.2 i hi).2
        have hv2 : v2 = vs i := by
          rcases hy2 with ⟨_, _, _, e⟩ | ⟨e, _⟩ | ⟨e, _⟩
          · exact e
          · rw [hmk] at e; cases e
          · rw [hmk] at e; cases e
        have hvi : vs i = u := by
          have := hag i hmk (by
            have hsz : i < listed.size := by
              rcases Nat.lt_or_ge i listed.size with h' | h'
              · exact h'
              · simp [Array.getElem?_eq_none h'] at hun
            simp [hsz])
          simpa using this
        rw [hv2, hvi] at hK
        exact hK
    · rw [if_pos hw]
      refine .inl (wp_of_quietE (hq w1 (extC_of (Below.refl _ _))) fun w2 hb2 => ?_)
      refine wpAny_of_V (n := n) hp hΦ hSh hL f _ _ w2 val hv (hb.trans (hb2.mono hb.size)) (fun j hj hl => ?_) ((hap.next hb2).quiet hmk) (fun W hW vs hvs hag => ?_)
      · have hji : j ≠ i := fun e => by rw [e, hmk] at hj; cases hj
        exact hΦ _ _ _ _ (hf j hj (hset j hji hl)) hb2
      · have hag' : ∀ j, mk j = true → listed.getD j false = true → vs j = val j := fun j hj hl => hag j hj (by
          rw [getD_set_ne false (Ne.symm (hne j hl))]; exact hl)
        obtain ⟨v2, hy2, hK⟩ := yields_of_vOp hoi ((h W hW vs hvs hag').2 i hi).2
        obtain ⟨v0, hy0, _⟩ := yields_of_vOp hoi ((h w0 (Below.refl _ _) vs hvs hag').2 i hi).2
        have q0 : ∀ w, extC w0 w → oi.quietAt P a (extC w0) w v0 := by
          rcases hy0 with ⟨e, _⟩ | ⟨_, _, e⟩ | ⟨_, e, _⟩
          · rw [hmk] at e; cases e
          · exact e
          · rw [hw] at e; cases e
        have q2 : ∀ w, extC W w → oi.quietAt P a (extC W) w v2 := by
          rcases hy2 with ⟨e, _⟩ | ⟨_, _, e⟩ | ⟨_, e, _⟩
          · rw [hmk] at e; cases e
          · exact e
          · rw [hw] at e; cases e
        have e1 : v0 = v1 := quiet_det hp (q0 w1 (extC_of hb)) (hq w1 (extC_of (Below.refl _ _)))
        have e2 : v0 = v2 := quiet_det hp (q0 W (extC_of hW)) (q2 W (extC_of (Below.refl _ _)))
        rw [← e2, e1] at hK
        exact hK
    · rw [if_neg (by rw [hw]; simp)]
      refine wpAny_of_V (n := n) hp hΦ hSh hL f _ _ w1 val hv hb (fun j hj hl => ?_) (hap.quiet hmk) (fun W hW vs hvs hag => ?_)
      · have hji : j ≠ i := fun e => by rw [e, hmk] at hj; cases hj
        exact hf j hj (hset j hji hl)
      · have hag' : ∀ j, mk j = true → listed.getD j false = true → vs j = val j := fun j hj hl => hag j hj (by
          rw [getD_set_ne false (Ne.symm (hne j hl))]; exact hl)
        obtain ⟨v2, hy2, hK⟩ := yields_of_vOp hoi ((h W hW vs hvs hag').2 i hi).2
        have e2 : v2 = undef := by
          rcases hy2 with ⟨e, _⟩ | ⟨_, e, _⟩ | ⟨_, _, e⟩
          · rw [hmk] at e; cases e
          · rw [hw] at e; cases e
          · exact e
        rw [e2] at hK
        exact hK

/-- A region of quiet operations and makers ahead of a tail in forced order. -/
theorem wp_region_makers {id : Nat} {Q : Exit → Act → World → Prop} {a : Act} {w : World} {l : List Oper} (n : Nat) (mk : Nat → Bool) (Φ : Nat → Value → World → Prop) (Sh : Nat → Value → Prop) (vs0 : Nat → Value) (hp : Probe P) (hm : P.follows .mixedOrders = true) (hB : Region.lexTailB .any l.toArray n = true)
    (hΦ : ∀ i v w w', Φ i v w → Below w.heap.size w w' → Φ i v w') (hSh : ∀ i v w, mk i = true → Φ i v w → Sh i v) (hv0 : ∀ i, mk i = true → Sh i (vs0 i))
    (h : ∀ W, Below w.heap.size w W → ∀ vs, (∀ i, mk i = true → Sh i (vs i)) → wpV P l.toArray (extC W) mk Φ vs (fun a' => ∀ w1, Below w.heap.size w w1 → (∀ i, i < n → mk i = true → Φ i (vs i) w1) → (∀ i j, i < n → j < n → i ≠ j → mk i = true → mk j = true → ∀ b, blockOf (vs i) = some b → blockOf (vs j) ≠ some b) → wpList P l.toArray Q (l.drop n) a' w1) 0 (l.take n) a) :
    (Code.region id l.toArray true).wp P Q a w := by
  simp only [Region.lexTailB, Bool.and_eq_true, decide_eq_true_eq] at hB
  obtain ⟨⟨⟨⟨hsel, hn⟩, hs⟩, hc⟩, hlex⟩ := hB
  have hn' : n < l.length := by simpa using hn
  have htl : (l.take n).length = n := by simp; omega
  have hdl : (l.drop n).length = l.toArray.size - n := by simp
  have inv0 : HeadInv .any l.toArray n (Array.replicate l.toArray.size false) :=
    ⟨by simp, fun j oj _ hl => (by rw [getD_replicate_false] at hl; cases hl), fun t _ ht => getD_in (by simpa using ht) (getD_replicate_false _ _)⟩
  have bw : Below w.heap.size w w.drew := (Below.refl _ _).drew
  refine wp_region_any hm ?_
  have H := fun W (hW : Below w.heap.size w W) vs hvs => wpAnyV_lex (md := .any) (C := extC W) (mk := mk) (Φ := Φ) (vs := vs) (g := l.toArray.size - n) hsel hs hc hn (l.take n) 0 _ a (fun j hj => by
    have hj' : j < n := by rw [htl] at hj; exact hj
    simp [hj']) (by simpa using htl) inv0 (fun j hj => absurd hj (by omega)) (by rw [htl]; exact hlex) (h W hW vs hvs)
  have := wpAny_of_V (Q' := Q) (w0 := w) (n := n) (g := l.toArray.size - n) (L := fun vs listed' a' => Region.seqB .any l.toArray (l.toArray.size - n) n listed' = true ∧ (∀ j, j < n → listed'.getD j false = true) ∧
      ∀ w1, Below w.heap.size w w1 → (∀ i, i < n → mk i = true → Φ i (vs i) w1) → (∀ i j, i < n → j < n → i ≠ j → mk i = true → mk j = true → ∀ b, blockOf (vs i) = some b → blockOf (vs j) ≠ some b) → wpList P l.toArray Q (l.drop n) a' w1) hp hΦ hSh
    (fun listed a' w1 val hb hf hap hL' => by
      have := wpAny_of_seq (md := .any) (Q' := Q) (l.drop n) n listed a' w1 (fun j => by simp [List.getElem?_drop]) (by rw [hdl]; exact hL'.1) (hL'.2.2 w1 hb (fun i hi hmk => hf i hmk (hL'.2.1 i hi)) (fun i j hi hj hne h1 h2 => hap.2 i j hne h1 h2 (hL'.2.1 i hi) (hL'.2.1 j hj)))
      rwa [hdl] at this)
    (l.take n).length (Array.replicate l.toArray.size false) a w.drew vs0 hv0 bw (fun i _ hl => by rw [getD_replicate_false] at hl; cases hl) ⟨fun i _ hl => (by rw [getD_replicate_false] at hl; cases hl), fun i j _ _ _ hl => (by rw [getD_replicate_false] at hl; cases hl)⟩ (fun W hW vs hvs _ => H W hW vs hvs)
  rw [htl, show n + (l.toArray.size - n) = l.toArray.size by omega] at this
  exact this

/-- A stretch of quiet operations. -/
theorem wpV_quiet {C : World → Prop} {vs : Nat → Value} {Q : Act → Prop} (hC : ∃ w, C w) : ∀ (m k : Nat) (l : List Oper) (a : Act), (∀ j, j < m → mk (k + j) = false) → m ≤ l.length →
    wpQuiet P ops C (fun a' => wpV P ops C mk Φ vs Q (k + m) (l.drop m) a') (l.take m) a → wpV P ops C mk Φ vs Q k l a
  | 0, k, l, a, _, _, h => by simpa [wpQuiet] using h
  | m + 1, k, [], a, _, hl, _ => by simp at hl
  | m + 1, k, o :: rest, a, hk, hl, h => by
    simp only [List.take_succ_cons, List.drop_succ_cons] at h
    have hk' : ∀ j, j < m → mk (k + 1 + j) = false := fun j h1 => by rw [show k + 1 + j = k + (j + 1) by omega]; exact hk (j + 1) (by omega)
    have hl' : m ≤ rest.length := by simpa using hl
    have go : ∀ a', wpQuiet P ops C (fun a' => wpV P ops C mk Φ vs Q (k + (m + 1)) (rest.drop m) a') (rest.take m) a' → wpV P ops C mk Φ vs Q (k + 1) rest a' := fun a' h' =>
      wpV_quiet hC m (k + 1) rest a' hk' hl' (by rw [show k + 1 + m = k + (m + 1) by omega]; exact h')
    unfold wpQuiet at h
    unfold wpV
    by_cases hw : Region.wanted o (yielded ops a.tmps) = true
    · rw [if_pos hw] at h
      obtain ⟨v, h1, h2⟩ := h
      exact ⟨v, .inr (.inl ⟨hk 0 (by omega), hw, h1⟩), go _ h2⟩
    · rw [if_neg hw] at h
      exact ⟨undef, .inr (.inr ⟨hk 0 (by omega), by simpa using hw, rfl⟩), go _ h⟩
/-- A maker. -/
theorem wpV_make {C : World → Prop} {vs : Nat → Value} {Q : Act → Prop} {k : Nat} {o : Oper} {rest : List Oper} {a : Act} (hk : mk k = true) (hw : Region.wanted o (yielded ops a.tmps) = true)
    (hm : ∀ w, C w → makesAt P o a w (Φ k)) (h : wpV P ops C mk Φ vs Q (k + 1) rest (a.put o.dst (vs k))) : wpV P ops C mk Φ vs Q k (o :: rest) a :=
  ⟨vs k, .inl ⟨hk, hw, hm, rfl⟩, h⟩
theorem wpV_make' {C : World → Prop} {vs : Nat → Value} {Q : Act → Prop} {k : Nat} {o : Oper} {rest : List Oper} {a : Act} (hk : mk k = true) (hw : o.guard = none)
    (hm : ∀ w, C w → makesAt P o a w (Φ k)) (h : wpV P ops C mk Φ vs Q (k + 1) rest (a.put o.dst (vs k))) : wpV P ops C mk Φ vs Q k (o :: rest) a := wpV_make hk (by simp [Region.wanted, hw]) hm h
theorem wpV_nil {C : World → Prop} {vs : Nat → Value} {Q : Act → Prop} {k : Nat} {a : Act} (h : Q a) : wpV P ops C mk Φ vs Q k [] a := h
end

end Go.Proofs.Ytlcpbdbdiahmjaa



/- A ring that is built in a box of its own: two slices that grow. -/
namespace Go.Proofs.Ytlcpbdbdiahmjaa
open Go.RowKit

/-- A box whose two slices are the call's own, and share no block. -/
structure Grow (D : Nat) (w : World) (bx : Nat) (n o : Int) (v2 v3 : Value) (k2 k3 : Nat) (X Y : List Int) : Prop where
  box : Blk w bx 25 #[.int .i64 n, .int .i64 o, v2, v3]
  hD : D ≤ bx
  o2 : w.ownsRow D 3 1 v2 k2 (X.map (.int .i64))
  o3 : w.ownsRow D 3 1 v3 k3 (Y.map (.int .i64))
  n2 : v2.ownBlock ≠ some bx
  n3 : v3.ownBlock ≠ some bx
  n23 : ∀ g, v2.ownBlock = some g → v3.ownBlock ≠ some g
theorem Grow.keep {D : Nat} {w w' : World} {bx : Nat} {n o : Int} {v2 v3 : Value} {k2 k3 : Nat} {X Y : List Int} (h : Grow D w bx n o v2 v3 k2 k3 X Y) (hb : Below w.heap.size w w') : Grow D w' bx n o v2 v3 k2 k3 X Y :=
  ⟨h.box.below hb h.box.lt, h.hD, h.o2.kept (Below.grown_ hb) (by cases v2.ownBlock <;> simp), h.o3.kept (Below.grown_ hb) (by cases v3.ownBlock <;> simp), h.n2, h.n3, h.n23⟩

/-- An element is put behind the first slice. -/
theorem Grow.push2 {D : Nat} {w w3 : World} {bx : Nat} {n o x : Int} {v2 v3 v' : Value} {k2 k3 : Nat} {X Y : List Int} {T : TypeId} (h : Grow D w bx n o v2 v3 k2 k3 X Y)
    (hown : w3.ownsRow D 3 1 v' (k2 + 1) (X.map (.int .i64) ++ [.int .i64 x])) (hg : (w.alloc (.cells #[.int .i64 x] T)).grownBy w3 v2.ownBlock)
    (hat : v'.ownBlock = v2.ownBlock ∨ v'.ownBlock = some (w.alloc (.cells #[.int .i64 x] T)).heap.size) (hDw : D ≤ w.heap.size) :
    Grow D (w3.setCell ⟨bx, 2, none⟩ v') bx n o v' v3 (k2 + 1) k3 (X ++ [x]) Y ∧ Below D w (w3.setCell ⟨bx, 2, none⟩ v') := by
  have hs : (w.alloc (.cells #[.int .i64 x] T)).heap.size = w.heap.size + 1 := by simp
  rw [hs] at hat
  have b1 : Below w.heap.size w (w.alloc (.cells #[.int .i64 x] T)) := (Below.refl _ _).alloc (Nat.le_refl _) _
  have h1 := h.keep b1
  have hlt := h.box.lt
  have kk := h1.o3.kept hg (by
    cases e3 : v3.ownBlock with
    | none => exact .inl rfl
    | some g => exact .inr fun e => h.n23 g e.symm e3)
  have kb : Blk w3 bx 25 #[.int .i64 n, .int .i64 o, v2, v3] := (hg.block bx h1.box.lt (Ne.symm h.n2)).trans h1.box
  have nb : v'.ownBlock ≠ some bx := by
    rcases hat with e | e
    · rw [e]; exact h.n2
    · rw [e]; simp; omega
  have hbx2 : ∀ g, v'.ownBlock = some g → g ≠ bx := fun g e e' => nb (by rw [e, e'])
  refine ⟨⟨by simpa using kb.set_ 2 v', h.hD, ?_, ?_, nb, h.n3, fun g e e3 => ?_⟩, ?_⟩
  · rw [List.map_append]; exact ownsRow_setCell_other hown nb v'
  · exact ownsRow_setCell_other kk h.n3 v'
  · rcases hat with e2 | e2
    · exact h.n23 g (by rw [← e2]; exact e) e3
    · rw [e2] at e
      have := (h.o3.lt g e3).2
      simp at e
      omega
  · exact (((b1.mono hDw)).grown hg (by simp; omega) (fun k hk => (h1.o2.lt k hk).1)).setCell h.hD _

/-- An element is put behind the second slice. -/
theorem Grow.push3 {D : Nat} {w w3 : World} {bx : Nat} {n o x : Int} {v2 v3 v' : Value} {k2 k3 : Nat} {X Y : List Int} {T : TypeId} (h : Grow D w bx n o v2 v3 k2 k3 X Y)
    (hown : w3.ownsRow D 3 1 v' (k3 + 1) (Y.map (.int .i64) ++ [.int .i64 x])) (hg : (w.alloc (.cells #[.int .i64 x] T)).grownBy w3 v3.ownBlock)
    (hat : v'.ownBlock = v3.ownBlock ∨ v'.ownBlock = some (w.alloc (.cells #[.int .i64 x] T)).heap.size) (hDw : D ≤ w.heap.size) :
    Grow D (w3.setCell ⟨bx, 3, none⟩ v') bx n o v2 v' k2 (k3 + 1) X (Y ++ [x]) ∧ Below D w (w3.setCell ⟨bx, 3, none⟩ v') := by
  have hs : (w.alloc (.cells #[.int .i64 x] T)).heap.size = w.heap.size + 1 := by simp
  rw [hs] at hat
  have b1 : Below w.heap.size w (w.alloc (.cells #[.int .i64 x] T)) := (Below.refl _ _).alloc (Nat.le_refl _) _
  have h1 := h.keep b1
  have hlt := h.box.lt
  have kk := h1.o2.kept hg (by
    cases e2 : v2.ownBlock with
    | none => exact .inl rfl
    | some g => exact .inr fun e => h.n23 g e2 e.symm)
  have kb : Blk w3 bx 25 #[.int .i64 n, .int .i64 o, v2, v3] := (hg.block bx h1.box.lt (Ne.symm h.n3)).trans h1.box
  have nb : v'.ownBlock ≠ some bx := by
    rcases hat with e | e
    · rw [e]; exact h.n3
    · rw [e]; simp; omega
  have hbx2 : ∀ g, v'.ownBlock = some g → g ≠ bx := fun g e e' => nb (by rw [e, e'])
  refine ⟨⟨by simpa using kb.set_ 3 v', h.hD, ?_, ?_, h.n2, nb, fun g e2 e => ?_⟩, ?_⟩
  · exact ownsRow_setCell_other kk h.n2 v'
  · rw [List.map_append]; exact ownsRow_setCell_other hown nb v'
  · rcases hat with e3 | e3
    · exact h.n23 g e2 (by rw [← e3]; exact e)
    · rw [e3] at e
      have := (h.o2.lt g e2).2
      simp at e
      omega
  · exact (((b1.mono hDw)).grown hg (by simp; omega) (fun k hk => (h1.o3.lt k hk).1)).setCell h.hD _

theorem Grow.app2 {D : Nat} {w w3 : World} {bx gg cap m : Nat} {n o x : Int} {v2 v3 : Value} {k2 k3 : Nat} {X Y : List Int} {T : TypeId} (h : Grow D w bx n o v2 v3 k2 k3 X Y)
    (hown : w3.ownsRow D 3 1 (.slice (some ⟨gg, 0, none⟩) m cap) (k2 + 1) (X.map (.int .i64) ++ [.int .i64 x])) (hg : (w.alloc (.cells #[.int .i64 x] T)).drew.grownBy w3 v2.ownBlock)
    (hat : v2.ownBlock = some gg ∨ gg = w.heap.size + 1) (hDw : D ≤ w.heap.size) :
    Grow D (w3.setCell ⟨bx, 2, none⟩ (.slice (some ⟨gg, 0, none⟩) m cap)) bx n o (.slice (some ⟨gg, 0, none⟩) m cap) v3 (k2 + 1) k3 (X ++ [x]) Y ∧ Below D w (w3.setCell ⟨bx, 2, none⟩ (.slice (some ⟨gg, 0, none⟩) m cap)) :=
  h.push2 (T := T) hown ⟨hg.os, hg.tape, hg.output, hg.size, hg.block⟩ (by
    rcases hat with e | e
    · exact .inl (by rw [e]; rfl)
    · exact .inr (by rw [e]; simp [Value.ownBlock])) hDw
theorem Grow.app3 {D : Nat} {w w3 : World} {bx gg cap m : Nat} {n o x : Int} {v2 v3 : Value} {k2 k3 : Nat} {X Y : List Int} {T : TypeId} (h : Grow D w bx n o v2 v3 k2 k3 X Y)
    (hown : w3.ownsRow D 3 1 (.slice (some ⟨gg, 0, none⟩) m cap) (k3 + 1) (Y.map (.int .i64) ++ [.int .i64 x])) (hg : (w.alloc (.cells #[.int .i64 x] T)).drew.grownBy w3 v3.ownBlock)
    (hat : v3.ownBlock = some gg ∨ gg = w.heap.size + 1) (hDw : D ≤ w.heap.size) :
    Grow D (w3.setCell ⟨bx, 3, none⟩ (.slice (some ⟨gg, 0, none⟩) m cap)) bx n o v2 (.slice (some ⟨gg, 0, none⟩) m cap) k2 (k3 + 1) X (Y ++ [x]) ∧ Below D w (w3.setCell ⟨bx, 3, none⟩ (.slice (some ⟨gg, 0, none⟩) m cap)) :=
  h.push3 (T := T) hown ⟨hg.os, hg.tape, hg.output, hg.size, hg.block⟩ (by
    rcases hat with e | e
    · exact .inl (by rw [e]; rfl)
    · exact .inr (by rw [e]; simp [Value.ownBlock])) hDw

theorem Grow.put2 {D : Nat} {w w3 : World} {bx gg cap m : Nat} {n o x : Int} {v2 v3 : Value} {k2 k3 : Nat} {X Y : List Int} (h : Grow D w bx n o v2 v3 k2 k3 X Y)
    (hown : w3.ownsRow D 3 1 (.slice (some ⟨gg, 0, none⟩) m cap) (k2 + 1) (X.map (.int .i64) ++ [.int .i64 x])) (hg : w.grownBy w3 v2.ownBlock)
    (hat : v2.ownBlock = some gg ∨ gg = w.heap.size) :
    Grow D (w3.setCell ⟨bx, 2, none⟩ (.slice (some ⟨gg, 0, none⟩) m cap)) bx n o (.slice (some ⟨gg, 0, none⟩) m cap) v3 (k2 + 1) k3 (X ++ [x]) Y ∧ Below D w (w3.setCell ⟨bx, 2, none⟩ (.slice (some ⟨gg, 0, none⟩) m cap)) := by
  have hlt := h.box.lt
  have kk := h.o3.kept hg (by
    cases e3 : v3.ownBlock with
    | none => exact .inl rfl
    | some g => exact .inr fun e => h.n23 g e.symm e3)
  have kb : Blk w3 bx 25 #[.int .i64 n, .int .i64 o, v2, v3] := (hg.block bx hlt (Ne.symm h.n2)).trans h.box
  have nb : gg ≠ bx := by
    rcases hat with e | e
    · intro e2; exact h.n2 (by rw [e, e2])
    · omega
  have nb' : (Value.slice (some ⟨gg, 0, none⟩) m cap).ownBlock ≠ some bx := by simpa [Value.ownBlock] using nb
  refine ⟨⟨by simpa using kb.set_ 2 _, h.hD, ?_, ?_, nb', h.n3, fun g e2 e3 => ?_⟩, ?_⟩
  · rw [List.map_append]; exact ownsRow_setCell_other hown nb' _
  · exact ownsRow_setCell_other kk h.n3 _
  · have eg : gg = g := by simpa [Value.ownBlock] using e2
    rcases hat with e | e
    · exact h.n23 g (by rw [e, eg]) e3
    · have := (h.o3.lt g e3).2
      omega
  · exact (Below.grown (Below.refl _ _) hg (Nat.le_of_lt (Nat.lt_of_le_of_lt h.hD hlt)) (fun k hk => (h.o2.lt k hk).1)).setCell h.hD _
theorem Grow.put3 {D : Nat} {w w3 : World} {bx gg cap m : Nat} {n o x : Int} {v2 v3 : Value} {k2 k3 : Nat} {X Y : List Int} (h : Grow D w bx n o v2 v3 k2 k3 X Y)
    (hown : w3.ownsRow D 3 1 (.slice (some ⟨gg, 0, none⟩) m cap) (k3 + 1) (Y.map (.int .i64) ++ [.int .i64 x])) (hg : w.grownBy w3 v3.ownBlock)
    (hat : v3.ownBlock = some gg ∨ gg = w.heap.size) :
    Grow D (w3.setCell ⟨bx, 3, none⟩ (.slice (some ⟨gg, 0, none⟩) m cap)) bx n o v2 (.slice (some ⟨gg, 0, none⟩) m cap) k2 (k3 + 1) X (Y ++ [x]) ∧ Below D w (w3.setCell ⟨bx, 3, none⟩ (.slice (some ⟨gg, 0, none⟩) m cap)) := by
  have hlt := h.box.lt
  have kk := h.o2.kept hg (by
    cases e3 : v2.ownBlock with
    | none => exact .inl rfl
    | some g => exact .inr fun e => h.n23 g e3 e.symm)
  have kb : Blk w3 bx 25 #[.int .i64 n, .int .i64 o, v2, v3] := (hg.block bx hlt (Ne.symm h.n3)).trans h.box
  have nb : gg ≠ bx := by
    rcases hat with e | e
    · intro e2; exact h.n3 (by rw [e, e2])
    · omega
  have nb' : (Value.slice (some ⟨gg, 0, none⟩) m cap).ownBlock ≠ some bx := by simpa [Value.ownBlock] using nb
  refine ⟨⟨by simpa using kb.set_ 3 _, h.hD, ?_, ?_, h.n2, nb', fun g e2 e3 => ?_⟩, ?_⟩
  · exact ownsRow_setCell_other kk h.n2 _
  · rw [List.map_append]; exact ownsRow_setCell_other hown nb' _
  · have eg : gg = g := by simpa [Value.ownBlock] using e3
    rcases hat with e | e
    · exact h.n23 g e2 (by rw [e, eg])
    · have := (h.o2.lt g e2).2
      omega
  · exact (Below.grown (Below.refl _ _) hg (Nat.le_of_lt (Nat.lt_of_le_of_lt h.hD hlt)) (fun k hk => (h.o3.lt k hk).1)).setCell h.hD _

end Go.Proofs.Ytlcpbdbdiahmjaa



/- The integers by a number, as the reading side makes them. -/
namespace Go.Proofs.Ytlcpbdbdiahmjaa
open Go.RowKit

/-- A ring that a call made: its slices are its own, and share no block. -/
def NewRing (D : Nat) (w : World) (v : Value) (n o : Int) (k : Nat) (X Y : List Int) : Prop :=
  ∃ v2 v3, v = .agg #[.int .i64 n, .int .i64 o, v2, v3] ∧ w.ownsRow D 3 1 v2 k (X.map (.int .i64)) ∧ w.ownsRow D 3 1 v3 k (Y.map (.int .i64)) ∧ (∀ g, v2.ownBlock = some g → v3.ownBlock ≠ some g)

/-- The box of the result gets the box that was built. -/
def store4 (w : World) (b : Nat) (v0 v1 v2 v3 : Value) : World := (((w.setCell ⟨b, 0, none⟩ v0).setCell ⟨b, 1, none⟩ v1).setCell ⟨b, 2, none⟩ v2).setCell ⟨b, 3, none⟩ v3
theorem store4_blk {w : World} {b : Nat} {a0 a1 a2 a3 v0 v1 v2 v3 : Value} {t : TypeId} (h : Blk w b t #[a0, a1, a2, a3]) : Blk (store4 w b v0 v1 v2 v3) b t #[v0, v1, v2, v3] := by
  have := (((h.set_ 0 v0).set_ 1 v1).set_ 2 v2).set_ 3 v3
  simpa [store4] using this
theorem store4_own {w : World} {b D k : Nat} {e : TypeId} {v v0 v1 v2 v3 : Value} {xs : List Value} (h : w.ownsRow D e 1 v k xs) (hb : v.ownBlock ≠ some b) : (store4 w b v0 v1 v2 v3).ownsRow D e 1 v k xs :=
  ownsRow_setCell_other (ownsRow_setCell_other (ownsRow_setCell_other (ownsRow_setCell_other h hb _) hb _) hb _) hb _
theorem store4_below {w w' : World} {b D : Nat} {v0 v1 v2 v3 : Value} (h : Below D w w') (hb : D ≤ b) : Below D w (store4 w' b v0 v1 v2 v3) := (((h.setCell hb _).setCell hb _).setCell hb _).setCell hb _
theorem NewRing.mono {D D' : Nat} {w : World} {v : Value} {n o : Int} {k : Nat} {X Y : List Int} (h : NewRing D w v n o k X Y) (hD : D' ≤ D) : NewRing D' w v n o k X Y := by
  obtain ⟨v2, v3, rfl, h2, h3, h4⟩ := h
  exact ⟨v2, v3, rfl, own_base h2 hD, own_base h3 hD, h4⟩
theorem Grow.result {D : Nat} {w : World} {bx b : Nat} {n o : Int} {v2 v3 : Value} {k : Nat} {X Y : List Int} {T : TypeId} {cs : Array Value} (h : Grow D w bx n o v2 v3 k k X Y) (hb : Blk w b T cs) (hT : T ≠ 3) :
    NewRing D (store4 w b (.int .i64 n) (.int .i64 o) v2 v3) (.agg #[.int .i64 n, .int .i64 o, v2, v3]) n o k X Y := by
  have ne : ∀ {v : Value} {k : Nat} {xs : List Value}, w.ownsRow D 3 1 v k xs → v.ownBlock ≠ some b := by
    intro v k xs ho e
    rcases ho.2 with ⟨rfl, _⟩ | ⟨g, cap, cur, rfl, _, hg, _⟩
    · cases e
    · have : g = b := by simpa [Value.ownBlock] using e
      subst this
      unfold Blk at hb
      rw [hg] at hb
      injection hb with hb
      injection hb with _ hb
      exact hT hb.symm
  exact ⟨v2, v3, rfl, store4_own h.o2 (ne h.o2), store4_own h.o3 (ne h.o3), h.n23⟩

def addZ (m k : Nat) : List Int := (List.range k).map fun j => (((j / m + j % m) % m : Nat) : Int)
def mulZ (m k : Nat) : List Int := (List.range k).map fun j => ((j / m * (j % m) % m : Nat) : Int)
theorem addZ_succ {m k : Nat} : addZ m (k + 1) = addZ m k ++ [(((k / m + k % m) % m : Nat) : Int)] := by simp [addZ, List.range_succ]
theorem mulZ_succ {m k : Nat} : mulZ m (k + 1) = mulZ m k ++ [((k / m * (k % m) % m : Nat) : Int)] := by simp [mulZ, List.range_succ]
theorem sqI {m : Nat} (hm' : m ≤ 16) : (m : Int) * m ≤ 256 ∧ 0 ≤ (m : Int) * m ∧ (m : Int) * m = ((m * m : Nat) : Int) ∧ m * m ≤ 256 := by
  have h2 : m * m ≤ 16 * 16 := Nat.mul_le_mul hm' hm'
  have e1 : (m : Int) * m = ((m * m : Nat) : Int) := by simp
  rw [e1]; omega
theorem parts2 {m k : Nat} (hk : k < m * m) : k / m < m ∧ k % m < m := by
  have hm : 0 < m := by
    rcases Nat.eq_zero_or_pos m with h | h
    · subst h; omega
    · exact h
  exact ⟨Nat.div_lt_of_lt_mul hk, Nat.mod_lt _ hm⟩

set_option maxHeartbeats 4000000 in
set_option maxRecDepth 100000 in
theorem l1Integers_any (m : Nat) (hm : 1 ≤ m) (hm' : m ≤ 16) (w : World) :
    Calls Try.prog 131 #[.int .i64 m] w fun e w' => ∃ v, e = .returned v ∧ NewRing w.heap.size w' v m ((1 % m : Nat) : Int) (m * m) (addZ m (m * m)) (mulZ m (m * m)) ∧ Below w.heap.size w w' := by
  obtain ⟨i0, hi, hz0, hz1, hz2⟩ := info_parts int_info
  obtain ⟨s1, s2, s3, s4⟩ := sqI hm'
  have S3 := Lib.hid s3
  clear s3
  go_enter Try.func131, Try.ntmps131
  go_wp2_with (fail)
  obtain ⟨W, hW⟩ : ∃ W, (w.alloc (.cells #[.int .i64 0, .int .i64 0, .slice none 0 0, .slice none 0 0] 25)).alloc (.cells #[.int .i64 m, .int .i64 (1 % (m : Int)), .slice none 0 0, .slice none 0 0] 25) = W := ⟨_, rfl⟩
  have k0 : Blk W w.heap.size 25 #[.int .i64 0, .int .i64 0, .slice none 0 0, .slice none 0 0] := by subst hW; exact (Blk.new w _ _).alloc _
  have k1 : Grow (w.heap.size + 1) W (w.heap.size + 1) m (1 % (m : Int)) (.slice none 0 0) (.slice none 0 0) 0 0 [] [] := by
    refine ⟨?_, by omega, World.ownsRow_nil _ _ _ _, World.ownsRow_nil _ _ _ _, by simp [Value.ownBlock], by simp [Value.ownBlock], by simp [Value.ownBlock]⟩
    subst hW; simpa using Blk.new (w.alloc (.cells #[.int .i64 0, .int .i64 0, .slice none 0 0, .slice none 0 0] 25)) 25 #[.int .i64 m, .int .i64 (1 % (m : Int)), .slice none 0 0, .slice none 0 0]
  have b0 : Below w.heap.size w W := by subst hW; exact ((Below.refl _ _).alloc (Nat.le_refl _) _).alloc (by simp) _
  rw [hW]
  clear hW
  have K0 := Lib.hid k0
  have K1 := Lib.hid k1
  have B0 := Lib.hid b0
  have hs0 : W.heap.size = W.heap.size := rfl
  clear k0 k1 b0
  go_loopw [14] (fun i wr => ∃ (k : Nat) (v2 v3 : Value), k ≤ m * m ∧ i = .int .i64 k ∧ Grow (w.heap.size + 1) wr (w.heap.size + 1) m (1 % (m : Int)) v2 v3 k k (addZ m k) (mulZ m k) ∧ Below (w.heap.size + 1) W wr) (fun i _ => m * m - (intOf i).toNat)
  case atStart => exact ⟨0, _, _, Nat.zero_le _, rfl, K1.out, Below.refl _ _⟩
  case round =>
    obtain ⟨k, v2, v3, hk, rfl, hg, hb⟩ := hrel
    have hz := K0.out.below hb (by omega)
    have GR := Lib.hid hg
    have BR := Lib.hid hb
    have ZR := Lib.hid hz
    clear hg hb hz
    by_cases hlt : k < m * m
    · have i1 : (k : Int) < (m : Int) * m := by rw [S3.out]; omega
      obtain ⟨p1, p2⟩ := parts2 hlt
      have c2 := GR.out.box.cell 2
      have f2 := GR.out.box.frozen 2
      simp at c2
      obtain ⟨e1, e2⟩ : (k : Int) / m = ((k / m : Nat) : Int) ∧ (k : Int) % m = ((k % m : Nat) : Int) := ⟨by simp, by simp⟩
      have n1 : 0 ≤ (k : Int) / m := by rw [e1]; exact Int.natCast_nonneg _
      have n2 : (k : Int) / m ≤ 256 := by rw [e1]; exact (Int.ofNat_le (n := 256)).2 (by omega)
      have n3 : ¬ m = 0 := by omega
      have E1 := Lib.hid e1
      have E2 := Lib.hid e2
      clear e1 e2
      go_wp2
      go_quiet (fail)
      rw [E1.out, E2.out]
      obtain ⟨A, eA⟩ : ∃ A : Nat, A = k / m := ⟨_, rfl⟩
      obtain ⟨B, eB⟩ : ∃ B : Nat, B = k % m := ⟨_, rfl⟩
      rw [← eA] at p1 ⊢
      rw [← eB] at p2 ⊢
      have HA := Lib.hid eA
      have HB := Lib.hid eB
      clear eA eB
      have GD := Lib.hid (GR.out.keep (below_drewN (Below.refl _ _) nq))
      have BD := Lib.hid (below_drewN BR.out nq)
      obtain ⟨w1, hw1⟩ : ∃ w1, wr.drewN nq = w1 := ⟨_, rfl⟩
      rw [hw1] at GD BD ⊢
      clear hw1
      have c2 := GD.out.box.cell 2
      have f2 := GD.out.box.frozen 2
      simp at c2
      have hq : w.heap.size + 1 ≤ w1.heap.size := Nat.le_of_lt GD.out.box.lt
      have hkk : k + 1 ≤ maxLen := by unfold maxLen; omega
      have hbt : (k + 1) * 8 ≤ 140737488355328 := by omega
      have hl1 : w.heap.size + 1 < w1.heap.size := GD.out.box.lt
      have hw1 : IntKind.i64.wrap ((A : Int) + B) = (A : Int) + B := IntWalk.i64_in _ (by omega)
      have hw2 : ((A : Int) + B).tmod m = (((A + B) % m : Nat) : Int) := by
        rw [Int.tmod_eq_emod_of_nonneg (by omega)]; simp
      have nn : v2.ownBlock ≠ some (w.heap.size + 1) := GD.out.n2
      go_wp2_with (fail)
      go_region_law
        ((refine step_append_lies _ (by rfl) _ _ _ (by rfl) (w.heap.size + 1) 3 i0 _ 1 8 Try.underlying23 hi hz0 hz1 hz2 rfl (by omega) v2 k _ (by rfl) ((GD.out.o2.alloc _).drew)
            ⟨w1.heap.size, 0, none⟩ 1 1 _ (by rfl) (by rfl) (World.news_of_block (t := 3) (fr := (0, 0)) (heap_alloc_new w1 _)) (by simp [Value.oneCell'])
            (by omega) hkk hbt (by simp; omega) (w1.heap.size + 1) (by simp) ?_; intro gg cap w2 hown1 hgrow hat hlt2
          have cc : w2.cell? ⟨w.heap.size + 1, 2, none⟩ = some v2 := by rw [hgrow.cell_far _ (by simp; omega) (Ne.symm nn)]; exact (GD.out.box.alloc _).cell 2
          have ff : w2.frozen? ⟨w.heap.size + 1, 2, none⟩ = false := by rw [hgrow.frozen_far _ (by simp; omega) (Ne.symm nn)]; exact (GD.out.box.alloc _).frozen 2))
      all_goals
        obtain ⟨gp, bp⟩ := GD.out.app2 (T := 3) hown1 hgrow hat hq
        have GP := Lib.hid gp
        have BP := Lib.hid (BD.out.trans bp)
        clear gp bp hown1 hgrow hat hlt2 cc ff c2 f2 hw1 hw2 nn
        obtain ⟨w3, hw3⟩ : ∃ w3, w2.setCell ⟨w.heap.size + 1, 2, none⟩ (.slice (some ⟨gg, 0, none⟩) (k + 1) cap) = w3 := ⟨_, rfl⟩
        rw [hw3] at GP BP ⊢
        clear hw3
        have c3 := GP.out.box.cell 3
        have f3 := GP.out.box.frozen 3
        simp at c3
        have hq3 : w.heap.size + 1 ≤ w3.heap.size := Nat.le_of_lt GP.out.box.lt
        have hl3 : w.heap.size + 1 < w3.heap.size := GP.out.box.lt
        have nn : v3.ownBlock ≠ some (w.heap.size + 1) := GP.out.n3
        have hab : (A : Int) * B = ((A * B : Nat) : Int) := by simp
        have hab2 : A * B ≤ 16 * 16 := Nat.mul_le_mul (by omega) (by omega)
        have hw1 : IntKind.i64.wrap ((A : Int) * B) = (A : Int) * B := IntWalk.i64_in _ (by rw [hab]; omega)
        have hw2 : ((A : Int) * B).tmod m = ((A * B % m : Nat) : Int) := by
          rw [Int.tmod_eq_emod_of_nonneg (by rw [hab]; omega)]; simp
        have hab3 : (0 : Int) ≤ (A : Int) * B := by rw [hab]; omega
        clear hab hab2
        go_wp2_with (fail)
        go_region_law
          ((refine step_append_lies _ (by rfl) _ _ _ (by rfl) (w.heap.size + 1) 3 i0 _ 1 8 Try.underlying23 hi hz0 hz1 hz2 rfl (by omega) v3 k _ (by rfl) ((GP.out.o3.alloc _).drew)
              ⟨w3.heap.size, 0, none⟩ 1 1 _ (by rfl) (by rfl) (World.news_of_block (t := 3) (fr := (0, 0)) (heap_alloc_new w3 _)) (by simp [Value.oneCell'])
              (by omega) hkk hbt (by simp; omega) (w3.heap.size + 1) (by simp) ?_; intro g9 cap9 w4 hown1 hgrow hat hlt2
            have cc : w4.cell? ⟨w.heap.size + 1, 3, none⟩ = some v3 := by rw [hgrow.cell_far _ (by simp; omega) (Ne.symm nn)]; exact (GP.out.box.alloc _).cell 3
            have ff : w4.frozen? ⟨w.heap.size + 1, 3, none⟩ = false := by rw [hgrow.frozen_far _ (by simp; omega) (Ne.symm nn)]; exact (GP.out.box.alloc _).frozen 3))
        all_goals
          obtain ⟨gp, bp⟩ := GP.out.app3 (T := 3) hown1 hgrow hat hq3
          have GQ := Lib.hid gp
          have BQ := Lib.hid (BP.out.trans bp)
          clear gp bp hown1 hgrow hat hlt2 cc ff c3 f3 hw1 hw2 nn
          obtain ⟨w5, hw5⟩ : ∃ w5, w4.setCell ⟨w.heap.size + 1, 3, none⟩ (.slice (some ⟨g9, 0, none⟩) (k + 1) cap9) = w5 := ⟨_, rfl⟩
          rw [hw5] at GQ BQ ⊢
          clear hw5
          go_wp2
          go_roundw
          case rel => exact ⟨k + 1, _, _, by omega, by go_num, by
            rw [addZ_succ, mulZ_succ, ← HA.out, ← HB.out]
            have := GQ.out
            simpa using this, BQ.out⟩
          case measure => simp [intOf]; omega
    · have i1 : ¬ (k : Int) < (m : Int) * m := by rw [S3.out]; omega
      have hkm : k = m * m := by omega
      subst hkm
      have hpos : 0 < m * m := Nat.mul_pos hm hm
      obtain ⟨g2, cap2, e2, _, _⟩ := GR.out.o2.form hpos
      obtain ⟨g3, cap3, e3, _, _⟩ := GR.out.o3.form hpos
      subst e2 e3
      have c0 := GR.out.box.cell 0
      have c1 := GR.out.box.cell 1
      have c2 := GR.out.box.cell 2
      have c3 := GR.out.box.cell 3
      have d0 := ZR.out.cell 0
      have d1 := ZR.out.cell 1
      have d2 := ZR.out.cell 2
      have d3 := ZR.out.cell 3
      have f0 := ZR.out.frozen 0
      have f1 := ZR.out.frozen 1
      have f2 := ZR.out.frozen 2
      have f3 := ZR.out.frozen 3
      simp at c0 c1 c2 c3 d0 d1 d2 d3
      go_wp2
      refine bodyPost_ret (v := .agg #[.int .i64 m, .int .i64 (1 % (m : Int)), .slice (some ⟨g2, 0, none⟩) (m * m) cap2, .slice (some ⟨g3, 0, none⟩) (m * m) cap3]) ?_ rfl ⟨_, rfl, ?_, ?_⟩
      · exact results_cell_row Try.results131 _ _ w.heap.size 25 _ (0, 0) _ rfl (store4_blk ZR.out) Try.underlying25 rfl (by kernel_rfl)
      · exact (GR.out.result ZR.out (by decide)).mono (by omega)
      · exact store4_below (B0.out.trans (BR.out.mono (by omega))) (Nat.le_refl _)

end Go.Proofs.Ytlcpbdbdiahmjaa



/- Rings that a call hands out: own memory. -/
namespace Go.Proofs.Ytlcpbdbdiahmjaa
open Go.RowKit

/-- A ring whose memory is the call's own. -/
def RingOut (D : Nat) (w : World) (v : Value) (n o : Int) (X Y : List Int) : Prop :=
  ∃ (A : Option Addr) (la ca : Nat) (B : Option Addr) (lb cb : Nat), v = .agg #[.int .i64 n, .int .i64 o, .slice A la ca, .slice B lb cb] ∧ Own w D A la X ∧ Own w D B lb Y ∧ Apart A la B lb ∧ la ≤ 1048570 ∧ lb ≤ 1048570 ∧ la + lb ≤ 1048570 ∧ la ≤ ca ∧ lb ≤ cb
theorem RingOut.zero {D : Nat} {w : World} : RingOut D w (.agg #[.int .i64 0, .int .i64 0, .slice none 0 0, .slice none 0 0]) 0 0 [] [] :=
  ⟨none, 0, 0, none, 0, 0, rfl, Own.nil, Own.nil, fun p h => (by obtain ⟨_, _, _, e, _⟩ := h; cases e), by omega, by omega, by omega, by omega, by omega⟩
theorem RingOut.next {D : Nat} {w w' : World} {v : Value} {n o : Int} {X Y : List Int} (h : RingOut D w v n o X Y) (hb : Below w.heap.size w w') : RingOut D w' v n o X Y := by
  obtain ⟨A, la, ca, B, lb, cb, e, h1, h2, h3⟩ := h
  exact ⟨A, la, ca, B, lb, cb, e, h1.next hb, h2.next hb, h3⟩
theorem Own.lower {w : World} {D D' n : Nat} {A : Option Addr} {xs : List Int} (h : Own w D A n xs) (hD : D' ≤ D) : Own w D' A n xs :=
  ⟨h.1, fun hn => by
    obtain ⟨g, off, e, h1, h2⟩ := h.2 hn
    exact ⟨g, off, e, Nat.le_trans hD h1, h2⟩⟩
theorem RingOut.lower {D D' : Nat} {w : World} {v : Value} {n o : Int} {X Y : List Int} (h : RingOut D w v n o X Y) (hD : D' ≤ D) : RingOut D' w v n o X Y := by
  obtain ⟨A, la, ca, B, lb, cb, e, h1, h2, h3⟩ := h
  exact ⟨A, la, ca, B, lb, cb, e, h1.lower hD, h2.lower hD, h3⟩
theorem NewRing.out {D : Nat} {w : World} {v : Value} {n o : Int} {k : Nat} {X Y : List Int} (h : NewRing D w v n o k X Y) (hk : k ≤ 1000) (hX : X.length = k) (hY : Y.length = k) : RingOut D w v n o X Y := by
  obtain ⟨v2, v3, rfl, h2, h3, h4⟩ := h
  rcases h2.2 with ⟨rfl, hk0⟩ | ⟨g, cap, cur, rfl, _, _, hc, _⟩
  · subst hk0
    obtain rfl := List.eq_nil_of_length_eq_zero hX
    obtain rfl := List.eq_nil_of_length_eq_zero hY
    rcases h3.2 with ⟨rfl, _⟩ | ⟨g', cap', cur', rfl, _⟩
    · exact ⟨none, 0, 0, none, 0, 0, rfl, Own.nil, Own.nil, fun p h => (by obtain ⟨_, _, _, e, _⟩ := h; cases e), by omega, by omega, by omega, by omega, by omega⟩
    · exact ⟨none, 0, 0, some ⟨g', 0, none⟩, 0, cap', rfl, Own.nil, Own.nil, fun p h => (by obtain ⟨_, _, _, e, _⟩ := h; cases e), by omega, by omega, by omega, by omega, by omega⟩
  · rcases h3.2 with ⟨rfl, hk0⟩ | ⟨g', cap', cur', rfl, _, _, hc', _⟩
    · subst hk0
      obtain rfl := List.eq_nil_of_length_eq_zero hX
      obtain rfl := List.eq_nil_of_length_eq_zero hY
      exact ⟨some ⟨g, 0, none⟩, 0, cap, none, 0, 0, rfl, Own.nil, Own.nil, fun p _ h => (by obtain ⟨_, _, _, e, _⟩ := h; cases e), by omega, by omega, by omega, by omega, by omega⟩
    · refine ⟨some ⟨g, 0, none⟩, k, cap, some ⟨g', 0, none⟩, k, cap', rfl, own_of_row h2 hX, own_of_row h3 hY, ?_, by omega, by omega, by omega, hc, hc'⟩
      rintro p ⟨q, off, j, e, _, rfl⟩ ⟨q', off', j', e', _, ep⟩
      have e1 : g = q := by simpa using congrArg (fun x => x.map Addr.block) e
      have e2 : g' = q' := by simpa using congrArg (fun x => x.map Addr.block) e'
      have e3 : q = q' := by injection ep
      exact h4 g rfl (by rw [e1, e3, ← e2]; rfl)

theorem store4_ownS {w : World} {b D n : Nat} {A : Option Addr} {xs : List Int} {v0 v1 v2 v3 : Value} (h : Own w D A n xs) (hb : b < D) : Own (store4 w b v0 v1 v2 v3) D A n xs :=
  ⟨h.1, fun hn => by
    obtain ⟨g, off, e, h1, h2, h3⟩ := h.2 hn
    have hne : ∀ k i, (⟨b, i, none⟩ : Addr) ≠ ⟨g, k, none⟩ := fun k i e => by injection e; omega
    refine ⟨g, off, e, h1, by simpa [store4] using h2, fun k hk => ?_⟩
    unfold store4
    exact ⟨(World.cell?_setCell_other _ _ _ _ (hne _ _)).trans ((World.cell?_setCell_other _ _ _ _ (hne _ _)).trans ((World.cell?_setCell_other _ _ _ _ (hne _ _)).trans ((World.cell?_setCell_other _ _ _ _ (hne _ _)).trans (h3 k hk).1))),
      (World.frozen?_setCell _ _ _ _).trans ((World.frozen?_setCell _ _ _ _).trans ((World.frozen?_setCell _ _ _ _).trans ((World.frozen?_setCell _ _ _ _).trans (h3 k hk).2)))⟩⟩
theorem store4_out {w : World} {b D : Nat} {v v0 v1 v2 v3 : Value} {n o : Int} {X Y : List Int} (h : RingOut D w v n o X Y) (hb : b < D) : RingOut D (store4 w b v0 v1 v2 v3) v n o X Y := by
  obtain ⟨A, la, ca, B, lb, cb, e, h1, h2, h3⟩ := h
  exact ⟨A, la, ca, B, lb, cb, e, store4_ownS h1 hb, store4_ownS h2 hb, h3⟩
theorem results_cell_flag {P : Program} {fn : Func} {p u : Tmp} {ty : TypeId} (h : fn.results = #[.cell p ty, .tmp u]) (tmps : Array Value) (w : World) (g : Nat) (t : TypeId) (cs : Array Value) (d : TypeDesc) (b : Value)
    (hp : tmps.getD p undef = .pointer (some ⟨g, 0, none⟩)) (hb : tmps.getD u undef = b) (hg : Blk w g t cs)
    (hu : P.underlying ty = some d) (hd : (match d with | .struct _ | .array _ _ => true | _ => false) = true) (hi : (P.info? ty).map (·.size) = some cs.size) :
    (results fn tmps).run P w = .ok (.tuple #[.agg cs, b]) w := by
  rw [results_cell_tmp h, hp, hb]
  simp [asAddr, run_loadVar_row w g t ty cs (0, 0) d hg hu hd hi]

end Go.Proofs.Ytlcpbdbdiahmjaa



/- Makers: rows of ints, boxes of rings. -/
namespace Go.Proofs.Ytlcpbdbdiahmjaa
open Go.RowKit
set_option maxRecDepth 100000

theorem probe : Probe Try.prog := ⟨72, Try.f72, 4, by kernel_rfl, by kernel_rfl, by kernel_rfl, by decide⟩
theorem makesAt_mono {P : Program} {o : Oper} {a : Act} {w : World} {F F' : Value → World → Prop} (h : makesAt P o a w F) (hF : ∀ v w', F v w' → F' v w') : makesAt P o a w F' := by
  unfold makesAt at *
  generalize (execOp a.eval o).run P w = r at *
  cases r with
  | ok n w' =>
    cases n <;> simp only [makesUpon] at h ⊢
    case value u => exact ⟨h.1, hF _ _ h.2.1, h.2.2⟩
    case enter f args => exact ⟨h.1, h.2.mono fun e w'' ⟨u, h1, h2, h3, h4⟩ => ⟨u, h1, h2, hF _ _ h3, h4⟩⟩
  | halt x w' => simp only [makesUpon] at h
/-- A box of a ring. -/
theorem makes_box {o : Oper} {a : Act} (hop : o.op = .alloc 25) (w : World) :
    makesAt Try.prog o a w fun v w' => ∃ g, v = .pointer (some ⟨g, 0, none⟩) ∧ w.heap.size ≤ g ∧ Blk w' g 25 #[.int .i64 0, .int .i64 0, .slice none 0 0, .slice none 0 0] := by
  unfold makesAt
  simp only [execOp, hop]
  go_simp
  refine ⟨(Below.refl _ _).alloc (Nat.le_refl _) _, ⟨w.heap.size, rfl, Nat.le_refl _, Blk.new w _ _⟩, fun b hb => ?_⟩
  simp [blockOf] at hb
  subst hb
  simp
def appPhi (D : Nat) (x : Value) (_ : Nat) (v : Value) (w : World) : Prop := ∃ g, v = .slice (some ⟨g, 0, none⟩) 1 1 ∧ D ≤ g ∧ Blk w g 3 #[x]
def appSh (_ : Nat) (v : Value) : Prop := ∃ g, v = .slice (some ⟨g, 0, none⟩) 1 1
theorem appPhi_stable {D : Nat} {x : Value} (i : Nat) (v : Value) (w w' : World) (h : appPhi D x i v w) (hb : Below w.heap.size w w') : appPhi D x i v w' := by
  obtain ⟨g, h1, h2, h3⟩ := h
  exact ⟨g, h1, h2, h3.below hb h3.lt⟩
theorem appSh_of {D : Nat} {x : Value} (i : Nat) (v : Value) (w : World) (h : appPhi D x i v w) : appSh i v := by
  obtain ⟨g, h1, _⟩ := h
  exact ⟨g, h1⟩
/-- A row of one int. -/
theorem makes_one {o : Oper} {a : Act} (x : Operand) (n : Int) (hop : o.op = .buildSlice 23 1 #[(0, x)]) (hx : a.eval x = .int .i64 n) (w : World) :
    makesAt Try.prog o a w fun v w' => ∃ g, v = .slice (some ⟨g, 0, none⟩) 1 1 ∧ w.heap.size ≤ g ∧ Blk w' g 3 #[.int .i64 n] := by
  unfold makesAt
  generalize a.eval = ev at hx ⊢
  simp only [execOp, hop]
  go_simp
  refine ⟨(Below.refl _ _).alloc (Nat.le_refl _) _, ⟨w.heap.size, rfl, Nat.le_refl _, Blk.new w _ _⟩, fun b hb => ?_⟩
  simp [blockOf] at hb
  subst hb
  simp

end Go.Proofs.Ytlcpbdbdiahmjaa



/- Regions that draw their order and make blocks: makers that lean on makers. -/
namespace Go.Proofs.Ytlcpbdbdiahmjaa
open Go.RowKit

section
variable {P : Program} {ops : Array Oper} {md : Region.Mode} {C : World → Prop} {mk : Nat → Bool} {Φ : Nat → Value → World → Prop} {vs : Nat → Value}

/-- The block that a slice leads to. -/
def sliceBlocks : Value → List Nat
  | .slice (some a) _ _ => [a.block]
  | _ => []
/-- The blocks that a value leads to: of a slice, a pointer, a ring with a flag. -/
def blocksOf : Value → List Nat
  | .slice (some a) _ _ => [a.block]
  | .pointer (some a) => [a.block]
  | .tuple vs => match vs.getD 0 undef with
    | .agg cs => sliceBlocks (cs.getD 2 undef) ++ sliceBlocks (cs.getD 3 undef)
    | _ => []
  | _ => []
/-- A block that was made between two worlds. -/
def FreshInD (w w' : World) (u : Value) : Prop := ∀ b, b ∈ blocksOf u → w.heap.size ≤ b ∧ b < w'.heap.size
/-- A maker: from each world of the class it yields some value, in a world that leaves all old memory alone and of which the fact holds. -/
def makesUponD (P : Program) (w : World) (F : Value → World → Prop) : Result Next → Prop
  | .ok (.value u) w' => Below w.heap.size w w' ∧ F u w' ∧ FreshInD w w' u
  | .ok (.enter f args) w' => w' = w ∧ Calls P f args w (fun e w'' => ∃ u, e = .returned u ∧ Below w.heap.size w w'' ∧ F u w'' ∧ FreshInD w w'' u)
  | _ => False
def makesAtD (P : Program) (o : Oper) (a : Act) (w : World) (F : Value → World → Prop) : Prop := makesUponD P w F ((execOp a.eval o).run P w)


/-- The facts of the makers that an operation waits for. -/
def depsOk (mk : Nat → Bool) (Φ : Nat → Value → World → Prop) (vs : Nat → Value) (o : Oper) (w : World) : Prop := ∀ e ∈ o.after, Region.binds .any e = true → mk e.on = true → Φ e.on (vs e.on) w
def YieldsVD (P : Program) (ops : Array Oper) (C : World → Prop) (mk : Nat → Bool) (Φ : Nat → Value → World → Prop) (vs : Nat → Value) (i : Nat) (o : Oper) (v : Value) (a : Act) : Prop :=
  (mk i = true ∧ Region.wanted o (yielded ops a.tmps) = true ∧ (∀ w, C w → depsOk mk Φ vs o w → makesAtD P o a w (Φ i)) ∧ v = vs i) ∨
  (mk i = false ∧ Region.wanted o (yielded ops a.tmps) = true ∧ ∀ w, C w → o.quietAt P a C w v) ∨
  (mk i = false ∧ Region.wanted o (yielded ops a.tmps) = false ∧ v = undef)
/-- Operation number i comes up. -/
def vOpD (P : Program) (ops : Array Oper) (C : World → Prop) (mk : Nat → Bool) (Φ : Nat → Value → World → Prop) (vs : Nat → Value) (i : Nat) (K : Act → Prop) (a : Act) : Prop :=
  match ops[i]? with
  | none => K a
  | some o => ∃ v, YieldsVD P ops C mk Φ vs i o v a ∧ K (a.put o.dst v)

theorem vOp_monoD {i : Nat} {a : Act} {K K' : Act → Prop} (h : ∀ a, K a → K' a) (hh : vOpD P ops C mk Φ vs i K a) : vOpD P ops C mk Φ vs i K' a := by
  unfold vOpD at *
  split
  · exact h _ (by simpa [*] using hh)
  · rename_i o ho
    simp only [ho] at hh
    obtain ⟨v, h1, h2⟩ := hh
    exact ⟨v, h1, h _ h2⟩
theorem YieldsVD.vOpD {i : Nat} {o : Oper} {v : Value} {a : Act} (hi : ops[i]? = some o) (hy : YieldsVD P ops C mk Φ vs i o v a) {K : Act → Prop} (h : K (a.put o.dst v)) : vOpD P ops C mk Φ vs i K a := by
  unfold Go.Proofs.Ytlcpbdbdiahmjaa.vOpD
  simp only [hi]
  exact ⟨v, hy, h⟩
theorem yields_of_vOpD {i : Nat} {o : Oper} {a : Act} {K : Act → Prop} (hi : ops[i]? = some o) (h : vOpD P ops C mk Φ vs i K a) : ∃ v, YieldsVD P ops C mk Φ vs i o v a ∧ K (a.put o.dst v) := by
  unfold vOpD at h
  simpa only [hi] using h
theorem YieldsVD.of_same {i : Nat} {o : Oper} {v : Value} {a a' : Act} (hy : YieldsVD P ops C mk Φ vs i o v a) (he : execOp a'.eval o = execOp a.eval o)
    (hw : Region.wanted o (yielded ops a'.tmps) = Region.wanted o (yielded ops a.tmps)) : YieldsVD P ops C mk Φ vs i o v a' := by
  unfold YieldsVD Oper.quietAt makesAtD at *
  rw [he, hw]
  exact hy
theorem vOp_putD {i j : Nat} {oi oj : Oper} {v : Value} (hj : ops[j]? = some oj) (hap : oi.apart ops oj = true)
    (hsi : ∀ cs b, oi.op ≠ .select cs b) (hsj : ∀ cs b, oj.op ≠ .select cs b) {K : Act → Prop} {a : Act}
    (hy : YieldsVD P ops C mk Φ vs i oi v a) (h : vOpD P ops C mk Φ vs j K (a.put oi.dst v)) :
    vOpD P ops C mk Φ vs j (fun a' => YieldsVD P ops C mk Φ vs i oi v a' ∧ K (a'.put oi.dst v)) a := by
  obtain ⟨h1, h2, h3⟩ := Oper.apart_spec hap
  obtain ⟨u, hu, hn⟩ := yields_of_vOpD hj h
  refine YieldsVD.vOpD hj (hu.of_same (execOp_put oj hsj a oi.dst v h1).symm (wanted_put oj a oi.dst v h1).symm) ⟨?_, ?_⟩
  · exact hy.of_same (execOp_put oi hsi a oj.dst u h3) (wanted_put oi a oj.dst u h3)
  · rw [← Act.put_comm a v u h2]; exact hn

/-- The walk in the order of the text. -/
def wpVD (P : Program) (ops : Array Oper) (C : World → Prop) (mk : Nat → Bool) (Φ : Nat → Value → World → Prop) (vs : Nat → Value) (Q : Act → Prop) : Nat → List Oper → Act → Prop
  | _, [], a => Q a
  | k, o :: rest, a => ∃ v, YieldsVD P ops C mk Φ vs k o v a ∧ wpVD P ops C mk Φ vs Q (k + 1) rest (a.put o.dst v)

def wpAnyVD (P : Program) (md : Region.Mode) (ops : Array Oper) (C : World → Prop) (mk : Nat → Bool) (Φ : Nat → Value → World → Prop) (vs : Nat → Value) (n : Nat) (L : Array Bool → Act → Prop) : Nat → Array Bool → Act → Prop
  | 0, listed, a => L listed a
  | f + 1, listed, a =>
    Region.ready md ops listed ≠ [] ∧ ∀ i ∈ Region.ready md ops listed, i < n ∧ vOpD P ops C mk Φ vs i (wpAnyVD P md ops C mk Φ vs n L f (listed.setIfInBounds i true)) a

theorem wpAnyV_firstD {n i : Nat} {oi : Oper} {v : Value} {L : Array Bool → Act → Prop} (hi : ops[i]? = some oi) (hsel : ∀ (j : Nat) (o : Oper) cs b, ops[j]? = some o → o.op ≠ .select cs b)
    (hs : Region.sinkB md ops n = true) (hc : Region.chainB md ops n = true) (hn : n < ops.size) (hin : i < n)
    (hdone : ∀ listed a, L listed a → ∀ j ∈ Region.ready md ops listed, n ≤ j) :
    ∀ (f : Nat) (listed : Array Bool) (a : Act), HeadInv md ops n listed →
      (∀ j oj, ops[j]? = some oj → j ≠ i → listed.getD j true = false → (∀ e ∈ oj.after, Region.binds md e = true → e.on ≠ i) → oi.apart ops oj = true) →
      i ∈ Region.ready md ops listed → YieldsVD P ops C mk Φ vs i oi v a →
      wpAnyVD P md ops C mk Φ vs n L f (listed.setIfInBounds i true) (a.put oi.dst v) → wpAnyVD P md ops C mk Φ vs n L (f + 1) listed a := by
  intro f
  induction f with
  | zero =>
    intro listed a inv _ hr hy H
    have hun := (mem_ready.1 hr).1
    refine ⟨fun h => (by rw [h] at hr; cases hr), fun j hj => ?_⟩
    have hjn : j < n := by
      rcases Nat.lt_or_ge j n with h | h
      · exact h
      · exact absurd hj (tail_waits hs hc hn inv _ i rfl hin hun j h)
    refine ⟨hjn, ?_⟩
    by_cases hji : j = i
    · subst hji; exact hy.vOpD hi H
    · have := hdone _ _ H j (ready_mono hj hji)
      omega
  | succ f ih =>
    intro listed a inv hfree hr hy H
    have hun := (mem_ready.1 hr).1
    refine ⟨fun h => (by rw [h] at hr; cases hr), fun j hj => ?_⟩
    have hjn : j < n := by
      rcases Nat.lt_or_ge j n with h | h
      · exact h
      · exact absurd hj (tail_waits hs hc hn inv _ i rfl hin hun j h)
    refine ⟨hjn, ?_⟩
    by_cases hji : j = i
    · subst hji; exact hy.vOpD hi H
    · have h1 := (H.2 j (ready_mono hj hji)).2
      obtain ⟨hjun, oj, hoj, hall⟩ := mem_ready.1 hj
      have hnot : ∀ e ∈ oj.after, Region.binds md e = true → e.on ≠ i := fun e he hb heq => by
        have h1 := hall e he hb
        rw [heq, getD_both hun] at h1
        cases h1
      have h2 := vOp_putD hoj (hfree j oj hoj hji hjun hnot) (fun cs b => hsel i oi cs b hi) (fun cs b => hsel j oj cs b hoj) hy h1
      have hfree' : ∀ k ok, ops[k]? = some ok → k ≠ i → (listed.setIfInBounds j true).getD k true = false →
          (∀ e ∈ ok.after, Region.binds md e = true → e.on ≠ i) → oi.apart ops ok = true := fun k ok hk hki hun hno => by
        refine hfree k ok hk hki ?_ hno
        by_cases hjk : j = k
        · subst hjk; exact hjun
        · rw [getD_set_ne true hjk] at hun; exact hun
      refine vOp_monoD (fun a' h3 => ih (listed.setIfInBounds j true) a' (inv.set hj hjn) hfree' (ready_mono hr (Ne.symm hji)) h3.1 ?_) h2
      rw [Array.setIfInBounds_comm _ _ hji]
      exact h3.2

theorem wpAnyV_lexD {n g : Nat} {Lq : Act → Prop} (hsel : Region.noSelect ops = true) (hs : Region.sinkB md ops n = true) (hc : Region.chainB md ops n = true) (hn : n < ops.size) :
    ∀ (l : List Oper) (k : Nat) (listed : Array Bool) (a : Act), (∀ j, j < l.length → l[j]? = ops[k + j]?) → k + l.length = n → HeadInv md ops n listed → (∀ j, j < k → listed.getD j false = true) →
    Region.lexHead md ops g l.length k listed = true → wpVD P ops C mk Φ vs Lq k l a →
    wpAnyVD P md ops C mk Φ vs n (fun listed' a' => Region.seqB md ops g n listed' = true ∧ (∀ j, j < n → listed'.getD j false = true) ∧ Lq a') l.length listed a
  | [], k, listed, a, _, hk, _, hall, hB, h => by
    have : k = n := by simpa using hk
    subst this
    exact ⟨by simpa [Region.lexHead] using hB, hall, h⟩
  | o :: l, k, listed, a, hl, hk, inv, hall, hB, h => by
    have h0 : ops[k]? = some o := by simpa using (hl 0 (by simp)).symm
    simp only [List.length_cons, Region.lexHead, Bool.and_eq_true] at hB
    obtain ⟨⟨hr, hf⟩, hB'⟩ := hB
    have hkn : k < n := by simp only [List.length_cons] at hk; omega
    have hr' : k ∈ Region.ready md ops listed := by simpa using hr
    obtain ⟨v, hy, hK⟩ := h
    have hsz : k < listed.size := by rw [inv.size]; omega
    have hall' : ∀ j, j < k + 1 → (listed.setIfInBounds k true).getD j false = true := fun j hj => by
      by_cases e : k = j
      · subst e; simp [hsz]
      · rw [getD_set_ne false e]; exact hall j (by omega)
    exact wpAnyV_firstD h0 (Region.noSelect_spec hsel) hs hc hn hkn (fun listed' a' hL => seqB_ready hL.1) l.length listed a inv (Region.free_spec h0 hf) hr' hy
      (wpAnyV_lexD hsel hs hc hn l (k + 1) _ _ (fun j hj => by have := hl (j + 1) (by simp; omega); simpa [Nat.add_assoc, Nat.add_comm 1 j] using this) (by simp only [List.length_cons] at hk; omega) (inv.set hr' hkn) hall' hB' hK)

theorem wp_of_makesD {o : Oper} {a : Act} {w : World} {F : Value → World → Prop} {K : Act → World → Prop} {Q' : Exit → Act → World → Prop} (hh : makesAtD P o a w F)
    (h : ∀ u w', Below w.heap.size w w' → F u w' → FreshInD w w' u → K (a.put o.dst u) w') : o.wp P a w K Q' := by
  unfold makesAtD at hh
  unfold Oper.wp
  generalize (execOp a.eval o).run P w = r at *
  cases r with
  | ok n w' =>
    cases n <;> simp only [makesUponD] at hh <;> simp only [Oper.upon]
    case value u => exact h _ _ hh.1 hh.2.1 hh.2.2
    case enter f args =>
      obtain ⟨e1, hc⟩ := hh
      rw [e1]
      exact hc.mono fun e w'' ⟨u, he, hb, hF, hfr⟩ => by subst he; exact h _ _ hb hF hfr
  | halt x w' => simp only [makesUponD] at hh
end

section
variable {P : Program} {ops : Array Oper} {mk : Nat → Bool} {Φ : Nat → Value → World → Prop}

/-- The blocks that the makers that have come up lead to: all there, no two the same. -/
def ApartVD (mk : Nat → Bool) (listed : Array Bool) (val : Nat → Value) (w : World) : Prop :=
  (∀ i, mk i = true → listed.getD i false = true → ∀ b, b ∈ blocksOf (val i) → b < w.heap.size) ∧
  (∀ i j, i ≠ j → mk i = true → mk j = true → listed.getD i false = true → listed.getD j false = true → ∀ b, b ∈ blocksOf (val i) → b ∉ blocksOf (val j))
theorem ApartVD.next {listed : Array Bool} {val : Nat → Value} {w w' : World} (h : ApartVD mk listed val w) (hb : Below w.heap.size w w') : ApartVD mk listed val w' :=
  ⟨fun i h1 h2 b h3 => Nat.lt_of_lt_of_le (h.1 i h1 h2 b h3) hb.size, h.2⟩
theorem ApartVD.quiet {listed : Array Bool} {val : Nat → Value} {w : World} {i : Nat} (h : ApartVD mk listed val w) (hi : mk i = false) : ApartVD mk (listed.setIfInBounds i true) val w := by
  have back : ∀ j, mk j = true → (listed.setIfInBounds i true).getD j false = true → listed.getD j false = true := fun j hj hl => by
    rw [getD_set_ne false (fun e => by rw [← e, hi] at hj; cases hj)] at hl; exact hl
  exact ⟨fun j h1 h2 => h.1 j h1 (back j h1 h2), fun j k hne h1 h2 h3 h4 => h.2 j k hne h1 h2 (back j h1 h3) (back k h2 h4)⟩
theorem ApartVD.made {listed : Array Bool} {val : Nat → Value} {w w' : World} {i : Nat} {u : Value} (h : ApartVD mk listed val w) (hb : Below w.heap.size w w') (hf : FreshInD w w' u) :
    ApartVD mk (listed.setIfInBounds i true) (fun j => if j = i then u else val j) w' := by
  have back : ∀ j, j ≠ i → (listed.setIfInBounds i true).getD j false = true → listed.getD j false = true := fun j hj hl => by
    rw [getD_set_ne false (Ne.symm hj)] at hl; exact hl
  refine ⟨fun j h1 h2 b h3 => ?_, fun j k hne h1 h2 h3 h4 b h5 h6 => ?_⟩
  · by_cases e : j = i
    · subst e; simp only [if_true] at h3; exact (hf b h3).2
    · simp only [e, if_false] at h3; exact Nat.lt_of_lt_of_le (h.1 j h1 (back j e h2) b h3) hb.size
  · by_cases e : j = i
    · have e' : k ≠ i := fun e2 => hne (e.trans e2.symm)
      simp only [e, if_true] at h5
      simp only [e', if_false] at h6
      have := h.1 k h2 (back k e' h4) b h6
      have := (hf b h5).1
      omega
    · simp only [e, if_false] at h5
      have l5 := h.1 j h1 (back j e h3) b h5
      by_cases e' : k = i
      · simp only [e', if_true] at h6
        have := (hf b h6).1
        omega
      · simp only [e', if_false] at h6
        exact h.2 j k hne h1 h2 (back j e h3) (back k e' h4) b h5 h6

theorem wpAny_of_VD (hp : Probe P) {n g : Nat} {w0 : World} {L : (Nat → Value) → Array Bool → Act → Prop} {Q' : Exit → Act → World → Prop} {Sh : Nat → Value → Prop} (hΦ : ∀ i v w w', Φ i v w → Below w.heap.size w w' → Φ i v w') (hSh : ∀ i v w, mk i = true → Φ i v w → Sh i v)
    (hL : ∀ listed a w1 (val : Nat → Value), Below w0.heap.size w0 w1 → (∀ i, mk i = true → listed.getD i false = true → Φ i (val i) w1) → ApartVD mk listed val w1 → L val listed a → wpAny P .any ops Q' g listed a w1) :
    ∀ (f : Nat) (listed : Array Bool) (a : Act) (w1 : World) (val : Nat → Value), (∀ i, mk i = true → Sh i (val i)) → Below w0.heap.size w0 w1 → (∀ i, mk i = true → listed.getD i false = true → Φ i (val i) w1) → ApartVD mk listed val w1 →
      (∀ W, Below w0.heap.size w0 W → ∀ vs, (∀ i, mk i = true → Sh i (vs i)) → (∀ i, mk i = true → listed.getD i false = true → vs i = val i) → wpAnyVD P .any ops (extC W) mk Φ vs n (L vs) f listed a) → wpAny P .any ops Q' (f + g) listed a w1
  | 0, listed, a, w1, val, hv, hb, hf, hap, h => by
    rw [Nat.zero_add]
    exact hL _ _ _ _ hb hf hap (h w0 (Below.refl _ _) val hv (fun _ _ _ => rfl))
  | f + 1, listed, a, w1, val, hv, hb, hf, hap, h => by
    rw [show f + 1 + g = (f + g) + 1 by omega]
    have h0 := h w1 hb val hv (fun _ _ _ => rfl)
    refine ⟨fun e => absurd e h0.1, fun i hi => ?_⟩
    have hun := (mem_ready.1 hi).1
    obtain ⟨oi, hoi, hdep⟩ := (mem_ready.1 hi).2
    have hne : ∀ j, listed.getD j false = true → j ≠ i := fun j hj e => by
      subst e
      rw [getD_both hun] at hj
      cases hj
    have hset : ∀ j, j ≠ i → (listed.setIfInBounds i true).getD j false = true → listed.getD j false = true := fun j hj e => by
      rw [getD_set_ne false (Ne.symm hj)] at e; exact e
    obtain ⟨v1, hy1, _⟩ := yields_of_vOpD hoi (h0.2 i hi).2
    unfold wpOp
    simp only [hoi]
    rcases hy1 with ⟨hmk, hw, hm, _⟩ | ⟨hmk, hw, hq⟩ | ⟨hmk, hw, rfl⟩
    · rw [if_pos hw]
      refine .inl (wp_of_makesD (hm w1 (extC_of (Below.refl _ _)) (fun e he hbd hk => hf e.on hk (hdep e he hbd))) fun u w2 hb2 hu hfr => ?_)
      refine wpAny_of_VD (n := n) hp hΦ hSh hL f _ _ w2 (fun j => if j = i then u else val j) (fun j hj => (by
        by_cases e : j = i
        · subst e; simp only [if_true]; exact hSh _ _ _ hj hu
        · simp only [e, if_false]; exact hv j hj)) (hb.trans (hb2.mono hb.size)) (fun j hj hl => ?_) (hap.made hb2 hfr) (fun W hW vs hvs hag => ?_)
      · by_cases e : j = i
        · subst e; simp only [if_true]; exact hu
        · simp only [e, if_false]; exact hΦ _ _ _ _ (hf j hj (hset j e hl)) hb2
      · have h1 := h W hW vs hvs (fun j hj hl => by
          have hji := hne j hl
          have := hag j hj (by rw [getD_set_ne false (Ne.symm hji)]; exact hl)
          simpa [hji] using this)
        obtain ⟨v2, hy2, hK⟩ := yields_of_vOpD hoi (h1.2 i hi).2
        have hv2 : v2 = vs i := by
          rcases hy2 with ⟨_, _, _, e⟩ | ⟨e, _⟩ | ⟨e, _⟩
          · exact e
          · rw [hmk] at e; cases e
          · rw [hmk] at e; cases e
        have hvi : vs i = u := by
          have := hag i hmk (by
            have hsz : i < listed.size := by
              rcases Nat.lt_or_ge i listed.size with h' | h'
              · exact h'
              · simp [Array.getElem?_eq_none h'] at hun
            simp [hsz])
          simpa using this
        rw [hv2, hvi] at hK
        exact hK
    · rw [if_pos hw]
      refine .inl (wp_of_quietE (hq w1 (extC_of (Below.refl _ _))) fun w2 hb2 => ?_)
      refine wpAny_of_VD (n := n) hp hΦ hSh hL f _ _ w2 val hv (hb.trans (hb2.mono hb.size)) (fun j hj hl => ?_) ((hap.next hb2).quiet hmk) (fun W hW vs hvs hag => ?_)
      · have hji : j ≠ i := fun e => by rw [e, hmk] at hj; cases hj
        exact hΦ _ _ _ _ (hf j hj (hset j hji hl)) hb2
      · have hag' : ∀ j, mk j = true → listed.getD j false = true → vs j = val j := fun j hj hl => hag j hj (by
          rw [getD_set_ne false (Ne.symm (hne j hl))]; exact hl)
        obtain ⟨v2, hy2, hK⟩ := yields_of_vOpD hoi ((h W hW vs hvs hag').2 i hi).2
        obtain ⟨v0, hy0, _⟩ := yields_of_vOpD hoi ((h w0 (Below.refl _ _) vs hvs hag').2 i hi).2
        have q0 : ∀ w, extC w0 w → oi.quietAt P a (extC w0) w v0 := by
          rcases hy0 with ⟨e, _⟩ | ⟨_, _, e⟩ | ⟨_, e, _⟩
          · rw [hmk] at e; cases e
          · exact e
          · rw [hw] at e; cases e
        have q2 : ∀ w, extC W w → oi.quietAt P a (extC W) w v2 := by
          rcases hy2 with ⟨e, _⟩ | ⟨_, _, e⟩ | ⟨_, e, _⟩
          · rw [hmk] at e; cases e
          · exact e
          · rw [hw] at e; cases e
        have e1 : v0 = v1 := quiet_det hp (q0 w1 (extC_of hb)) (hq w1 (extC_of (Below.refl _ _)))
        have e2 : v0 = v2 := quiet_det hp (q0 W (extC_of hW)) (q2 W (extC_of (Below.refl _ _)))
        rw [← e2, e1] at hK
        exact hK
    · rw [if_neg (by rw [hw]; simp)]
      refine wpAny_of_VD (n := n) hp hΦ hSh hL f _ _ w1 val hv hb (fun j hj hl => ?_) (hap.quiet hmk) (fun W hW vs hvs hag => ?_)
      · have hji : j ≠ i := fun e => by rw [e, hmk] at hj; cases hj
        exact hf j hj (hset j hji hl)
      · have hag' : ∀ j, mk j = true → listed.getD j false = true → vs j = val j := fun j hj hl => hag j hj (by
          rw [getD_set_ne false (Ne.symm (hne j hl))]; exact hl)
        obtain ⟨v2, hy2, hK⟩ := yields_of_vOpD hoi ((h W hW vs hvs hag').2 i hi).2
        have e2 : v2 = undef := by
          rcases hy2 with ⟨e, _⟩ | ⟨_, e, _⟩ | ⟨_, _, e⟩
          · rw [hmk] at e; cases e
          · rw [hw] at e; cases e
          · exact e
        rw [e2] at hK
        exact hK

/-- A region of quiet operations and makers ahead of a tail in forced order. -/
theorem wp_region_makersD {id : Nat} {Q : Exit → Act → World → Prop} {a : Act} {w : World} {l : List Oper} (n : Nat) (mk : Nat → Bool) (Φ : Nat → Value → World → Prop) (Sh : Nat → Value → Prop) (vs0 : Nat → Value) (hp : Probe P) (hm : P.follows .mixedOrders = true) (hB : Region.lexTailB .any l.toArray n = true)
    (hΦ : ∀ i v w w', Φ i v w → Below w.heap.size w w' → Φ i v w') (hSh : ∀ i v w, mk i = true → Φ i v w → Sh i v) (hv0 : ∀ i, mk i = true → Sh i (vs0 i))
    (h : ∀ W, Below w.heap.size w W → ∀ vs, (∀ i, mk i = true → Sh i (vs i)) → wpVD P l.toArray (extC W) mk Φ vs (fun a' => ∀ w1, Below w.heap.size w w1 → (∀ i, i < n → mk i = true → Φ i (vs i) w1) → (∀ i j, i < n → j < n → i ≠ j → mk i = true → mk j = true → ∀ b, b ∈ blocksOf (vs i) → b ∉ blocksOf (vs j)) → wpList P l.toArray Q (l.drop n) a' w1) 0 (l.take n) a) :
    (Code.region id l.toArray true).wp P Q a w := by
  simp only [Region.lexTailB, Bool.and_eq_true, decide_eq_true_eq] at hB
  obtain ⟨⟨⟨⟨hsel, hn⟩, hs⟩, hc⟩, hlex⟩ := hB
  have hn' : n < l.length := by simpa using hn
  have htl : (l.take n).length = n := by simp; omega
  have hdl : (l.drop n).length = l.toArray.size - n := by simp
  have inv0 : HeadInv .any l.toArray n (Array.replicate l.toArray.size false) :=
    ⟨by simp, fun j oj _ hl => (by rw [getD_replicate_false] at hl; cases hl), fun t _ ht => getD_in (by simpa using ht) (getD_replicate_false _ _)⟩
  have bw : Below w.heap.size w w.drew := (Below.refl _ _).drew
  refine wp_region_any hm ?_
  have H := fun W (hW : Below w.heap.size w W) vs hvs => wpAnyV_lexD (md := .any) (C := extC W) (mk := mk) (Φ := Φ) (vs := vs) (g := l.toArray.size - n) hsel hs hc hn (l.take n) 0 _ a (fun j hj => by
    have hj' : j < n := by rw [htl] at hj; exact hj
    simp [hj']) (by simpa using htl) inv0 (fun j hj => absurd hj (by omega)) (by rw [htl]; exact hlex) (h W hW vs hvs)
  have := wpAny_of_VD (Q' := Q) (w0 := w) (n := n) (g := l.toArray.size - n) (L := fun vs listed' a' => Region.seqB .any l.toArray (l.toArray.size - n) n listed' = true ∧ (∀ j, j < n → listed'.getD j false = true) ∧
      ∀ w1, Below w.heap.size w w1 → (∀ i, i < n → mk i = true → Φ i (vs i) w1) → (∀ i j, i < n → j < n → i ≠ j → mk i = true → mk j = true → ∀ b, b ∈ blocksOf (vs i) → b ∉ blocksOf (vs j)) → wpList P l.toArray Q (l.drop n) a' w1) hp hΦ hSh
    (fun listed a' w1 val hb hf hap hL' => by
      have := wpAny_of_seq (md := .any) (Q' := Q) (l.drop n) n listed a' w1 (fun j => by simp [List.getElem?_drop]) (by rw [hdl]; exact hL'.1) (hL'.2.2 w1 hb (fun i hi hmk => hf i hmk (hL'.2.1 i hi)) (fun i j hi hj hne h1 h2 => hap.2 i j hne h1 h2 (hL'.2.1 i hi) (hL'.2.1 j hj)))
      rwa [hdl] at this)
    (l.take n).length (Array.replicate l.toArray.size false) a w.drew vs0 hv0 bw (fun i _ hl => by rw [getD_replicate_false] at hl; cases hl) ⟨fun i _ hl => (by rw [getD_replicate_false] at hl; cases hl), fun i j _ _ _ hl => (by rw [getD_replicate_false] at hl; cases hl)⟩ (fun W hW vs hvs _ => H W hW vs hvs)
  rw [htl, show n + (l.toArray.size - n) = l.toArray.size by omega] at this
  exact this

/-- A stretch of quiet operations. -/
theorem wpV_quietD {C : World → Prop} {vs : Nat → Value} {Q : Act → Prop} (hC : ∃ w, C w) : ∀ (m k : Nat) (l : List Oper) (a : Act), (∀ j, j < m → mk (k + j) = false) → m ≤ l.length →
    wpQuiet P ops C (fun a' => wpVD P ops C mk Φ vs Q (k + m) (l.drop m) a') (l.take m) a → wpVD P ops C mk Φ vs Q k l a
  | 0, k, l, a, _, _, h => by simpa [wpQuiet] using h
  | m + 1, k, [], a, _, hl, _ => by simp at hl
  | m + 1, k, o :: rest, a, hk, hl, h => by
    simp only [List.take_succ_cons, List.drop_succ_cons] at h
    have hk' : ∀ j, j < m → mk (k + 1 + j) = false := fun j h1 => by rw [show k + 1 + j = k + (j + 1) by omega]; exact hk (j + 1) (by omega)
    have hl' : m ≤ rest.length := by simpa using hl
    have go : ∀ a', wpQuiet P ops C (fun a' => wpVD P ops C mk Φ vs Q (k + (m + 1)) (rest.drop m) a') (rest.take m) a' → wpVD P ops C mk Φ vs Q (k + 1) rest a' := fun a' h' =>
      wpV_quietD hC m (k + 1) rest a' hk' hl' (by rw [show k + 1 + m = k + (m + 1) by omega]; exact h')
    unfold wpQuiet at h
    unfold wpVD
    by_cases hw : Region.wanted o (yielded ops a.tmps) = true
    · rw [if_pos hw] at h
      obtain ⟨v, h1, h2⟩ := h
      exact ⟨v, .inr (.inl ⟨hk 0 (by omega), hw, h1⟩), go _ h2⟩
    · rw [if_neg hw] at h
      exact ⟨undef, .inr (.inr ⟨hk 0 (by omega), by simpa using hw, rfl⟩), go _ h⟩
/-- A maker. -/
theorem wpV_makeD {C : World → Prop} {vs : Nat → Value} {Q : Act → Prop} {k : Nat} {o : Oper} {rest : List Oper} {a : Act} (hk : mk k = true) (hw : Region.wanted o (yielded ops a.tmps) = true)
    (hm : ∀ w, C w → depsOk mk Φ vs o w → makesAtD P o a w (Φ k)) (h : wpVD P ops C mk Φ vs Q (k + 1) rest (a.put o.dst (vs k))) : wpVD P ops C mk Φ vs Q k (o :: rest) a :=
  ⟨vs k, .inl ⟨hk, hw, hm, rfl⟩, h⟩
theorem wpV_make_D {C : World → Prop} {vs : Nat → Value} {Q : Act → Prop} {k : Nat} {o : Oper} {rest : List Oper} {a : Act} (hk : mk k = true) (hw : o.guard = none)
    (hm : ∀ w, C w → depsOk mk Φ vs o w → makesAtD P o a w (Φ k)) (h : wpVD P ops C mk Φ vs Q (k + 1) rest (a.put o.dst (vs k))) : wpVD P ops C mk Φ vs Q k (o :: rest) a := wpV_makeD hk (by simp [Region.wanted, hw]) hm h
theorem wpV_nilD {C : World → Prop} {vs : Nat → Value} {Q : Act → Prop} {k : Nat} {a : Act} (h : Q a) : wpVD P ops C mk Φ vs Q k [] a := h
end

end Go.Proofs.Ytlcpbdbdiahmjaa



/- Regions that draw their order and call functions that change a state: one walk, over any relation between worlds and an invariant with fuel. -/
namespace Go.Proofs.Ytlcpbdbdiahmjaa
open Go.RowKit

section
variable {P : Program} {ops : Array Oper} {md : Region.Mode} {R : World → World → Prop} {I : Nat → World → Prop} {C : World → Prop} {mk : Nat → Bool} {Φ : Nat → Value → World → Prop} {vs : Nat → Value}

/-- A maker: it yields some value, in a world that stands to this one as the relation says, of which the invariant and the fact hold. -/
def makesUponR (P : Program) (R : World → World → Prop) (J : World → Prop) (w : World) (F : Value → World → Prop) : Result Next → Prop
  | .ok (.value u) w' => R w w' ∧ J w' ∧ F u w'
  | .ok .skip w' => R w w' ∧ J w' ∧ F undef w'
  | .ok (.enter f args) w' => w' = w ∧ Calls P f args w (fun e w'' => ∃ u, e = .returned u ∧ R w w'' ∧ J w'' ∧ F u w'')
  | _ => False
def makesAtR (P : Program) (R : World → World → Prop) (J : World → Prop) (o : Oper) (a : Act) (w : World) (F : Value → World → Prop) : Prop := makesUponR P R J w F ((execOp a.eval o).run P w)
/-- An operation that enters no function. -/
def NoEnter (P : Program) (o : Oper) : Prop := ∀ ev w f args w', (execOp ev o).run P w ≠ .ok (.enter f args) w'

/-- The facts of the makers that an operation waits for. -/
def depsOkR (mk : Nat → Bool) (Φ : Nat → Value → World → Prop) (vs : Nat → Value) (o : Oper) (w : World) : Prop := ∀ e ∈ o.after, Region.binds .any e = true → mk e.on = true → Φ e.on (vs e.on) w
def YieldsVR (P : Program) (ops : Array Oper) (R : World → World → Prop) (I : Nat → World → Prop) (C : World → Prop) (mk : Nat → Bool) (Φ : Nat → Value → World → Prop) (vs : Nat → Value) (i : Nat) (o : Oper) (v : Value) (a : Act) : Prop :=
  (mk i = true ∧ Region.wanted o (yielded ops a.tmps) = true ∧ (∀ w f, C w → I (f + 1) w → depsOkR mk Φ vs o w → makesAtR P R (I f) o a w (Φ i)) ∧ v = vs i) ∨
  (mk i = false ∧ Region.wanted o (yielded ops a.tmps) = true ∧ NoEnter P o ∧ ∀ w, C w → o.quietAt P a C w v) ∨
  (mk i = false ∧ Region.wanted o (yielded ops a.tmps) = false ∧ v = undef)
/-- Operation number i comes up. -/
def vOpR (P : Program) (ops : Array Oper) (R : World → World → Prop) (I : Nat → World → Prop) (C : World → Prop) (mk : Nat → Bool) (Φ : Nat → Value → World → Prop) (vs : Nat → Value) (i : Nat) (K : Act → Prop) (a : Act) : Prop :=
  match ops[i]? with
  | none => K a
  | some o => ∃ v, YieldsVR P ops R I C mk Φ vs i o v a ∧ K (a.put o.dst v)

theorem vOp_monoR {i : Nat} {a : Act} {K K' : Act → Prop} (h : ∀ a, K a → K' a) (hh : vOpR P ops R I C mk Φ vs i K a) : vOpR P ops R I C mk Φ vs i K' a := by
  unfold vOpR at *
  split
  · exact h _ (by simpa [*] using hh)
  · rename_i o ho
    simp only [ho] at hh
    obtain ⟨v, h1, h2⟩ := hh
    exact ⟨v, h1, h _ h2⟩
theorem YieldsVR.vOpR {i : Nat} {o : Oper} {v : Value} {a : Act} (hi : ops[i]? = some o) (hy : YieldsVR P ops R I C mk Φ vs i o v a) {K : Act → Prop} (h : K (a.put o.dst v)) : vOpR P ops R I C mk Φ vs i K a := by
  unfold Go.Proofs.Ytlcpbdbdiahmjaa.vOpR
  simp only [hi]
  exact ⟨v, hy, h⟩
theorem yields_of_vOpR {i : Nat} {o : Oper} {a : Act} {K : Act → Prop} (hi : ops[i]? = some o) (h : vOpR P ops R I C mk Φ vs i K a) : ∃ v, YieldsVR P ops R I C mk Φ vs i o v a ∧ K (a.put o.dst v) := by
  unfold vOpR at h
  simpa only [hi] using h
theorem YieldsVR.of_same {i : Nat} {o : Oper} {v : Value} {a a' : Act} (hy : YieldsVR P ops R I C mk Φ vs i o v a) (he : execOp a'.eval o = execOp a.eval o)
    (hw : Region.wanted o (yielded ops a'.tmps) = Region.wanted o (yielded ops a.tmps)) : YieldsVR P ops R I C mk Φ vs i o v a' := by
  unfold YieldsVR Oper.quietAt makesAtR at *
  rw [he, hw]
  exact hy
theorem vOp_putR {i j : Nat} {oi oj : Oper} {v : Value} (hj : ops[j]? = some oj) (hap : oi.apart ops oj = true)
    (hsi : ∀ cs b, oi.op ≠ .select cs b) (hsj : ∀ cs b, oj.op ≠ .select cs b) {K : Act → Prop} {a : Act}
    (hy : YieldsVR P ops R I C mk Φ vs i oi v a) (h : vOpR P ops R I C mk Φ vs j K (a.put oi.dst v)) :
    vOpR P ops R I C mk Φ vs j (fun a' => YieldsVR P ops R I C mk Φ vs i oi v a' ∧ K (a'.put oi.dst v)) a := by
  obtain ⟨h1, h2, h3⟩ := Oper.apart_spec hap
  obtain ⟨u, hu, hn⟩ := yields_of_vOpR hj h
  refine YieldsVR.vOpR hj (hu.of_same (execOp_put oj hsj a oi.dst v h1).symm (wanted_put oj a oi.dst v h1).symm) ⟨?_, ?_⟩
  · exact hy.of_same (execOp_put oi hsi a oj.dst u h3) (wanted_put oi a oj.dst u h3)
  · rw [← Act.put_comm a v u h2]; exact hn

/-- The walk in the order of the text. -/
def wpVR (P : Program) (ops : Array Oper) (R : World → World → Prop) (I : Nat → World → Prop) (C : World → Prop) (mk : Nat → Bool) (Φ : Nat → Value → World → Prop) (vs : Nat → Value) (Q : Act → Prop) : Nat → List Oper → Act → Prop
  | _, [], a => Q a
  | k, o :: rest, a => ∃ v, YieldsVR P ops R I C mk Φ vs k o v a ∧ wpVR P ops R I C mk Φ vs Q (k + 1) rest (a.put o.dst v)

def wpAnyVR (P : Program) (md : Region.Mode) (ops : Array Oper) (R : World → World → Prop) (I : Nat → World → Prop) (C : World → Prop) (mk : Nat → Bool) (Φ : Nat → Value → World → Prop) (vs : Nat → Value) (n : Nat) (L : Array Bool → Act → Prop) : Nat → Array Bool → Act → Prop
  | 0, listed, a => L listed a
  | f + 1, listed, a =>
    Region.ready md ops listed ≠ [] ∧ ∀ i ∈ Region.ready md ops listed, i < n ∧ vOpR P ops R I C mk Φ vs i (wpAnyVR P md ops R I C mk Φ vs n L f (listed.setIfInBounds i true)) a

theorem wpAnyV_firstR {n i : Nat} {oi : Oper} {v : Value} {L : Array Bool → Act → Prop} (hi : ops[i]? = some oi) (hsel : ∀ (j : Nat) (o : Oper) cs b, ops[j]? = some o → o.op ≠ .select cs b)
    (hs : Region.sinkB md ops n = true) (hc : Region.chainB md ops n = true) (hn : n < ops.size) (hin : i < n)
    (hdone : ∀ listed a, L listed a → ∀ j ∈ Region.ready md ops listed, n ≤ j) :
    ∀ (f : Nat) (listed : Array Bool) (a : Act), HeadInv md ops n listed →
      (∀ j oj, ops[j]? = some oj → j ≠ i → listed.getD j true = false → (∀ e ∈ oj.after, Region.binds md e = true → e.on ≠ i) → oi.apart ops oj = true) →
      i ∈ Region.ready md ops listed → YieldsVR P ops R I C mk Φ vs i oi v a →
      wpAnyVR P md ops R I C mk Φ vs n L f (listed.setIfInBounds i true) (a.put oi.dst v) → wpAnyVR P md ops R I C mk Φ vs n L (f + 1) listed a := by
  intro f
  induction f with
  | zero =>
    intro listed a inv _ hr hy H
    have hun := (mem_ready.1 hr).1
    refine ⟨fun h => (by rw [h] at hr; cases hr), fun j hj => ?_⟩
    have hjn : j < n := by
      rcases Nat.lt_or_ge j n with h | h
      · exact h
      · exact absurd hj (tail_waits hs hc hn inv _ i rfl hin hun j h)
    refine ⟨hjn, ?_⟩
    by_cases hji : j = i
    · subst hji; exact hy.vOpR hi H
    · have := hdone _ _ H j (ready_mono hj hji)
      omega
  | succ f ih =>
    intro listed a inv hfree hr hy H
    have hun := (mem_ready.1 hr).1
    refine ⟨fun h => (by rw [h] at hr; cases hr), fun j hj => ?_⟩
    have hjn : j < n := by
      rcases Nat.lt_or_ge j n with h | h
      · exact h
      · exact absurd hj (tail_waits hs hc hn inv _ i rfl hin hun j h)
    refine ⟨hjn, ?_⟩
    by_cases hji : j = i
    · subst hji; exact hy.vOpR hi H
    · have h1 := (H.2 j (ready_mono hj hji)).2
      obtain ⟨hjun, oj, hoj, hall⟩ := mem_ready.1 hj
      have hnot : ∀ e ∈ oj.after, Region.binds md e = true → e.on ≠ i := fun e he hb heq => by
        have h1 := hall e he hb
        rw [heq, getD_both hun] at h1
        cases h1
      have h2 := vOp_putR hoj (hfree j oj hoj hji hjun hnot) (fun cs b => hsel i oi cs b hi) (fun cs b => hsel j oj cs b hoj) hy h1
      have hfree' : ∀ k ok, ops[k]? = some ok → k ≠ i → (listed.setIfInBounds j true).getD k true = false →
          (∀ e ∈ ok.after, Region.binds md e = true → e.on ≠ i) → oi.apart ops ok = true := fun k ok hk hki hun hno => by
        refine hfree k ok hk hki ?_ hno
        by_cases hjk : j = k
        · subst hjk; exact hjun
        · rw [getD_set_ne true hjk] at hun; exact hun
      refine vOp_monoR (fun a' h3 => ih (listed.setIfInBounds j true) a' (inv.set hj hjn) hfree' (ready_mono hr (Ne.symm hji)) h3.1 ?_) h2
      rw [Array.setIfInBounds_comm _ _ hji]
      exact h3.2

theorem wpAnyV_lexR {n g : Nat} {Lq : Act → Prop} (hsel : Region.noSelect ops = true) (hs : Region.sinkB md ops n = true) (hc : Region.chainB md ops n = true) (hn : n < ops.size) :
    ∀ (l : List Oper) (k : Nat) (listed : Array Bool) (a : Act), (∀ j, j < l.length → l[j]? = ops[k + j]?) → k + l.length = n → HeadInv md ops n listed → (∀ j, j < k → listed.getD j false = true) →
    Region.lexHead md ops g l.length k listed = true → wpVR P ops R I C mk Φ vs Lq k l a →
    wpAnyVR P md ops R I C mk Φ vs n (fun listed' a' => Region.seqB md ops g n listed' = true ∧ (∀ j, j < n → listed'.getD j false = true) ∧ Lq a') l.length listed a
  | [], k, listed, a, _, hk, _, hall, hB, h => by
    have : k = n := by simpa using hk
    subst this
    exact ⟨by simpa [Region.lexHead] using hB, hall, h⟩
  | o :: l, k, listed, a, hl, hk, inv, hall, hB, h => by
    have h0 : ops[k]? = some o := by simpa using (hl 0 (by simp)).symm
    simp only [List.length_cons, Region.lexHead, Bool.and_eq_true] at hB
    obtain ⟨⟨hr, hf⟩, hB'⟩ := hB
    have hkn : k < n := by simp only [List.length_cons] at hk; omega
    have hr' : k ∈ Region.ready md ops listed := by simpa using hr
    obtain ⟨v, hy, hK⟩ := h
    have hsz : k < listed.size := by rw [inv.size]; omega
    have hall' : ∀ j, j < k + 1 → (listed.setIfInBounds k true).getD j false = true := fun j hj => by
      by_cases e : k = j
      · subst e; simp [hsz]
      · rw [getD_set_ne false e]; exact hall j (by omega)
    exact wpAnyV_firstR h0 (Region.noSelect_spec hsel) hs hc hn hkn (fun listed' a' hL => seqB_ready hL.1) l.length listed a inv (Region.free_spec h0 hf) hr' hy
      (wpAnyV_lexR hsel hs hc hn l (k + 1) _ _ (fun j hj => by have := hl (j + 1) (by simp; omega); simpa [Nat.add_assoc, Nat.add_comm 1 j] using this) (by simp only [List.length_cons] at hk; omega) (inv.set hr' hkn) hall' hB' hK)

theorem wp_of_makesR {J : World → Prop} {o : Oper} {a : Act} {w : World} {F : Value → World → Prop} {K : Act → World → Prop} {Q' : Exit → Act → World → Prop} (hh : makesAtR P R J o a w F)
    (h : ∀ u w', R w w' → J w' → F u w' → K (a.put o.dst u) w') : o.wp P a w K Q' := by
  unfold makesAtR at hh
  unfold Oper.wp
  generalize (execOp a.eval o).run P w = r at *
  cases r with
  | ok n w' =>
    cases n <;> simp only [makesUponR] at hh <;> simp only [Oper.upon]
    case value u => exact h _ _ hh.1 hh.2.1 hh.2.2
    case skip => exact h _ _ hh.1 hh.2.1 hh.2.2
    case enter f args =>
      obtain ⟨e1, hc⟩ := hh
      rw [e1]
      exact hc.mono fun e w'' ⟨u, he, hb, hJ, hF⟩ => by subst he; exact h _ _ hb hJ hF
  | halt x w' => simp only [makesUponR] at hh
theorem wp_of_quietN {o : Oper} {a : Act} {w : World} {v : Value} {K : Act → World → Prop} {Q' : Exit → Act → World → Prop} (hn : NoEnter P o) (hh : o.quietAt P a C w v)
    (h : K (a.put o.dst v) w) : o.wp P a w K Q' := by
  unfold Oper.quietAt at hh
  unfold Oper.wp
  have hn' := hn a.eval w
  generalize (execOp a.eval o).run P w = r at *
  cases r with
  | ok n w' =>
    cases n <;> simp only [Oper.quietUpon] at hh <;> simp only [Oper.upon]
    case value u => obtain ⟨e1, e2⟩ := hh; rw [e1, e2]; exact h
    case skip => obtain ⟨e1, e2⟩ := hh; rw [e1, ← e2]; exact h
    case enter f args => exact absurd rfl (hn' f args w')
  | halt x w' => simp only [Oper.quietUpon] at hh
end

/-- The worlds that stand to this one as the relation says. -/
structure ExtR (R : World → World → Prop) (w : World) where
  to : World
  rel : R w to
def extR (R : World → World → Prop) (w : World) (u : ExtR R w) : World := u.to
theorem extR_rel (R : World → World → Prop) (w : World) (u : ExtR R w) : R w (extR R w u) := u.rel
abbrev extCR (R : World → World → Prop) (w : World) : World → Prop := fun w' => ∃ u : ExtR R w, w' = extR R w u
theorem extCR_of {R : World → World → Prop} {w w' : World} (h : R w w') : extCR R w w' := ⟨⟨w', h⟩, rfl⟩

section
variable {P : Program} {ops : Array Oper} {R : World → World → Prop} {I : Nat → World → Prop} {mk : Nat → Bool} {Φ : Nat → Value → World → Prop}

theorem wpAny_of_VR (hp : Probe P) (hR : ∀ w, R w w) (hT : ∀ a b c, R a b → R b c → R a c) (hI : ∀ f w, I (f + 1) w → I f w) {n g : Nat} {w0 : World} {L : (Nat → Value) → Array Bool → Act → Prop} {Q' : Exit → Act → World → Prop} {Sh : Nat → Value → Prop} (hΦ : ∀ i v w w', Φ i v w → R w w' → Φ i v w') (hSh : ∀ i v w, mk i = true → Φ i v w → Sh i v)
    (hL : ∀ listed a w1 (val : Nat → Value), R w0 w1 → I 0 w1 → (∀ i, mk i = true → listed.getD i false = true → Φ i (val i) w1) → L val listed a → wpAny P .any ops Q' g listed a w1) :
    ∀ (f : Nat) (listed : Array Bool) (a : Act) (w1 : World) (val : Nat → Value), (∀ i, mk i = true → Sh i (val i)) → R w0 w1 → I f w1 → (∀ i, mk i = true → listed.getD i false = true → Φ i (val i) w1) →
      (∀ W, R w0 W → ∀ vs, (∀ i, mk i = true → Sh i (vs i)) → (∀ i, mk i = true → listed.getD i false = true → vs i = val i) → wpAnyVR P .any ops R I (extCR R W) mk Φ vs n (L vs) f listed a) → wpAny P .any ops Q' (f + g) listed a w1
  | 0, listed, a, w1, val, hv, hb, hi0, hf, h => by
    rw [Nat.zero_add]
    exact hL _ _ _ _ hb hi0 hf (h w0 (hR _) val hv (fun _ _ _ => rfl))
  | f + 1, listed, a, w1, val, hv, hb, hif, hf, h => by
    rw [show f + 1 + g = (f + g) + 1 by omega]
    have h0 := h w1 hb val hv (fun _ _ _ => rfl)
    refine ⟨fun e => absurd e h0.1, fun i hi => ?_⟩
    have hun := (mem_ready.1 hi).1
    obtain ⟨oi, hoi, hdep⟩ := (mem_ready.1 hi).2
    have hne : ∀ j, listed.getD j false = true → j ≠ i := fun j hj e => by
      subst e
      rw [getD_both hun] at hj
      cases hj
    have hset : ∀ j, j ≠ i → (listed.setIfInBounds i true).getD j false = true → listed.getD j false = true := fun j hj e => by
      rw [getD_set_ne false (Ne.symm hj)] at e; exact e
    obtain ⟨v1, hy1, _⟩ := yields_of_vOpR hoi (h0.2 i hi).2
    unfold wpOp
    simp only [hoi]
    rcases hy1 with ⟨hmk, hw, hm, _⟩ | ⟨hmk, hw, hno, hq⟩ | ⟨hmk, hw, rfl⟩
    · rw [if_pos hw]
      refine .inl (wp_of_makesR (hm w1 f (extCR_of (hR _)) hif (fun e he hbd hk => hf e.on hk (hdep e he hbd))) fun u w2 hb2 hi2 hu => ?_)
      refine wpAny_of_VR (n := n) hp hR hT hI hΦ hSh hL f _ _ w2 (fun j => if j = i then u else val j) (fun j hj => (by
        by_cases e : j = i
        · subst e; simp only [if_true]; exact hSh _ _ _ hj hu
        · simp only [e, if_false]; exact hv j hj)) (hT _ _ _ hb hb2) hi2 (fun j hj hl => ?_) (fun W hW vs hvs hag => ?_)
      · by_cases e : j = i
        · subst e; simp only [if_true]; exact hu
        · simp only [e, if_false]; exact hΦ _ _ _ _ (hf j hj (hset j e hl)) hb2
      · have h1 := h W hW vs hvs (fun j hj hl => by
          have hji := hne j hl
          have := hag j hj (by rw [getD_set_ne false (Ne.symm hji)]; exact hl)
          simpa [hji] using this)
        obtain ⟨v2, hy2, hK⟩ := yields_of_vOpR hoi (h1.2 i hi).2
        have hv2 : v2 = vs i := by
          rcases hy2 with ⟨_, _, _, e⟩ | ⟨e, _⟩ | ⟨e, _⟩
          · exact e
          · rw [hmk] at e; cases e
          · rw [hmk] at e; cases e
        have hvi : vs i = u := by
          have := hag i hmk (by
            have hsz : i < listed.size := by
              rcases Nat.lt_or_ge i listed.size with h' | h'
              · exact h'
              · simp [Array.getElem?_eq_none h'] at hun
            simp [hsz])
          simpa using this
        rw [hv2, hvi] at hK
        exact hK
    · rw [if_pos hw]
      refine .inl (wp_of_quietN hno (hq w1 (extCR_of (hR _))) ?_)
      refine wpAny_of_VR (n := n) hp hR hT hI hΦ hSh hL f _ _ w1 val hv hb (hI _ _ hif) (fun j hj hl => ?_) (fun W hW vs hvs hag => ?_)
      · have hji : j ≠ i := fun e => by rw [e, hmk] at hj; cases hj
        exact hf j hj (hset j hji hl)
      · have hag' : ∀ j, mk j = true → listed.getD j false = true → vs j = val j := fun j hj hl => hag j hj (by
          rw [getD_set_ne false (Ne.symm (hne j hl))]; exact hl)
        obtain ⟨v2, hy2, hK⟩ := yields_of_vOpR hoi ((h W hW vs hvs hag').2 i hi).2
        obtain ⟨v0, hy0, _⟩ := yields_of_vOpR hoi ((h w0 (hR _) vs hvs hag').2 i hi).2
        have q0 : ∀ w, extCR R w0 w → oi.quietAt P a (extCR R w0) w v0 := by
          rcases hy0 with ⟨e, _⟩ | ⟨_, _, _, e⟩ | ⟨_, e, _⟩
          · rw [hmk] at e; cases e
          · exact e
          · rw [hw] at e; cases e
        have q2 : ∀ w, extCR R W w → oi.quietAt P a (extCR R W) w v2 := by
          rcases hy2 with ⟨e, _⟩ | ⟨_, _, _, e⟩ | ⟨_, e, _⟩
          · rw [hmk] at e; cases e
          · exact e
          · rw [hw] at e; cases e
        have e1 : v0 = v1 := quiet_det hp (q0 w1 (extCR_of hb)) (hq w1 (extCR_of (hR _)))
        have e2 : v0 = v2 := quiet_det hp (q0 W (extCR_of hW)) (q2 W (extCR_of (hR _)))
        rw [← e2, e1] at hK
        exact hK
    · rw [if_neg (by rw [hw]; simp)]
      refine wpAny_of_VR (n := n) hp hR hT hI hΦ hSh hL f _ _ w1 val hv hb (hI _ _ hif) (fun j hj hl => ?_) (fun W hW vs hvs hag => ?_)
      · have hji : j ≠ i := fun e => by rw [e, hmk] at hj; cases hj
        exact hf j hj (hset j hji hl)
      · have hag' : ∀ j, mk j = true → listed.getD j false = true → vs j = val j := fun j hj hl => hag j hj (by
          rw [getD_set_ne false (Ne.symm (hne j hl))]; exact hl)
        obtain ⟨v2, hy2, hK⟩ := yields_of_vOpR hoi ((h W hW vs hvs hag').2 i hi).2
        have e2 : v2 = undef := by
          rcases hy2 with ⟨e, _⟩ | ⟨_, e, _⟩ | ⟨_, _, e⟩
          · rw [hmk] at e; cases e
          · rw [hw] at e; cases e
          · exact e
        rw [e2] at hK
        exact hK

/-- A region of quiet operations and makers ahead of a tail in forced order. -/
theorem wp_region_makersR {id : Nat} {Q : Exit → Act → World → Prop} {a : Act} {w : World} {l : List Oper} (R : World → World → Prop) (I : Nat → World → Prop) (n : Nat) (mk : Nat → Bool) (Φ : Nat → Value → World → Prop) (Sh : Nat → Value → Prop) (vs0 : Nat → Value) (hp : Probe P) (hm : P.follows .mixedOrders = true) (hB : Region.lexTailB .any l.toArray n = true)
    (hR : ∀ w, R w w) (hT : ∀ a b c, R a b → R b c → R a c) (hI : ∀ f w, I (f + 1) w → I f w) (hRd : R w w.drew) (hId : I n w.drew)
    (hΦ : ∀ i v w w', Φ i v w → R w w' → Φ i v w') (hSh : ∀ i v w, mk i = true → Φ i v w → Sh i v) (hv0 : ∀ i, mk i = true → Sh i (vs0 i))
    (h : ∀ W, R w W → ∀ vs, (∀ i, mk i = true → Sh i (vs i)) → wpVR P l.toArray R I (extCR R W) mk Φ vs (fun a' => ∀ w1, R w w1 → I 0 w1 → (∀ i, i < n → mk i = true → Φ i (vs i) w1) → wpList P l.toArray Q (l.drop n) a' w1) 0 (l.take n) a) :
    (Code.region id l.toArray true).wp P Q a w := by
  simp only [Region.lexTailB, Bool.and_eq_true, decide_eq_true_eq] at hB
  obtain ⟨⟨⟨⟨hsel, hn⟩, hs⟩, hc⟩, hlex⟩ := hB
  have hn' : n < l.length := by simpa using hn
  have htl : (l.take n).length = n := by simp; omega
  have hdl : (l.drop n).length = l.toArray.size - n := by simp
  have inv0 : HeadInv .any l.toArray n (Array.replicate l.toArray.size false) :=
    ⟨by simp, fun j oj _ hl => (by rw [getD_replicate_false] at hl; cases hl), fun t _ ht => getD_in (by simpa using ht) (getD_replicate_false _ _)⟩
  refine wp_region_any hm ?_
  have H := fun W (hW : R w W) vs hvs => wpAnyV_lexR (md := .any) (R := R) (I := I) (C := extCR R W) (mk := mk) (Φ := Φ) (vs := vs) (g := l.toArray.size - n) hsel hs hc hn (l.take n) 0 _ a (fun j hj => by
    have hj' : j < n := by rw [htl] at hj; exact hj
    simp [hj']) (by simpa using htl) inv0 (fun j hj => absurd hj (by omega)) (by rw [htl]; exact hlex) (h W hW vs hvs)
  have := wpAny_of_VR (Q' := Q) (w0 := w) (n := n) (g := l.toArray.size - n) (L := fun vs listed' a' => Region.seqB .any l.toArray (l.toArray.size - n) n listed' = true ∧ (∀ j, j < n → listed'.getD j false = true) ∧
      ∀ w1, R w w1 → I 0 w1 → (∀ i, i < n → mk i = true → Φ i (vs i) w1) → wpList P l.toArray Q (l.drop n) a' w1) hp hR hT hI hΦ hSh
    (fun listed a' w1 val hb hi0 hf hL' => by
      have := wpAny_of_seq (md := .any) (Q' := Q) (l.drop n) n listed a' w1 (fun j => by simp [List.getElem?_drop]) (by rw [hdl]; exact hL'.1) (hL'.2.2 w1 hb hi0 (fun i hi hmk => hf i hmk (hL'.2.1 i hi)))
      rwa [hdl] at this)
    (l.take n).length (Array.replicate l.toArray.size false) a w.drew vs0 hv0 hRd (by rw [htl]; exact hId) (fun i _ hl => by rw [getD_replicate_false] at hl; cases hl) (fun W hW vs hvs _ => H W hW vs hvs)
  rw [htl, show n + (l.toArray.size - n) = l.toArray.size by omega] at this
  exact this

/-- A stretch of quiet operations. -/
theorem wpV_quietR {C : World → Prop} {vs : Nat → Value} {Q : Act → Prop} (hC : ∃ w, C w) : ∀ (m k : Nat) (l : List Oper) (a : Act), (∀ j, j < m → mk (k + j) = false) → m ≤ l.length → (∀ o ∈ l.take m, NoEnter P o) →
    wpQuiet P ops C (fun a' => wpVR P ops R I C mk Φ vs Q (k + m) (l.drop m) a') (l.take m) a → wpVR P ops R I C mk Φ vs Q k l a
  | 0, k, l, a, _, _, _, h => by simpa [wpQuiet] using h
  | m + 1, k, [], a, _, hl, _, _ => by simp at hl
  | m + 1, k, o :: rest, a, hk, hl, hne, h => by
    simp only [List.take_succ_cons, List.drop_succ_cons] at h
    have hk' : ∀ j, j < m → mk (k + 1 + j) = false := fun j h1 => by rw [show k + 1 + j = k + (j + 1) by omega]; exact hk (j + 1) (by omega)
    have hl' : m ≤ rest.length := by simpa using hl
    have go : ∀ a', wpQuiet P ops C (fun a' => wpVR P ops R I C mk Φ vs Q (k + (m + 1)) (rest.drop m) a') (rest.take m) a' → wpVR P ops R I C mk Φ vs Q (k + 1) rest a' := fun a' h' =>
      wpV_quietR hC m (k + 1) rest a' hk' hl' (fun o ho => hne o (List.mem_cons_of_mem _ ho)) (by rw [show k + 1 + m = k + (m + 1) by omega]; exact h')
    unfold wpQuiet at h
    unfold wpVR
    by_cases hw : Region.wanted o (yielded ops a.tmps) = true
    · rw [if_pos hw] at h
      obtain ⟨v, h1, h2⟩ := h
      exact ⟨v, .inr (.inl ⟨hk 0 (by omega), hw, hne o (by simp), h1⟩), go _ h2⟩
    · rw [if_neg hw] at h
      exact ⟨undef, .inr (.inr ⟨hk 0 (by omega), by simpa using hw, rfl⟩), go _ h⟩
/-- A maker. -/
theorem wpV_makeR {C : World → Prop} {vs : Nat → Value} {Q : Act → Prop} {k : Nat} {o : Oper} {rest : List Oper} {a : Act} (hk : mk k = true) (hw : Region.wanted o (yielded ops a.tmps) = true)
    (hm : ∀ w f, C w → I (f + 1) w → depsOkR mk Φ vs o w → makesAtR P R (I f) o a w (Φ k)) (h : wpVR P ops R I C mk Φ vs Q (k + 1) rest (a.put o.dst (vs k))) : wpVR P ops R I C mk Φ vs Q k (o :: rest) a :=
  ⟨vs k, .inl ⟨hk, hw, hm, rfl⟩, h⟩
theorem wpV_make_R {C : World → Prop} {vs : Nat → Value} {Q : Act → Prop} {k : Nat} {o : Oper} {rest : List Oper} {a : Act} (hk : mk k = true) (hw : o.guard = none)
    (hm : ∀ w f, C w → I (f + 1) w → depsOkR mk Φ vs o w → makesAtR P R (I f) o a w (Φ k)) (h : wpVR P ops R I C mk Φ vs Q (k + 1) rest (a.put o.dst (vs k))) : wpVR P ops R I C mk Φ vs Q k (o :: rest) a := wpV_makeR hk (by simp [Region.wanted, hw]) hm h
theorem wpV_nilR {C : World → Prop} {vs : Nat → Value} {Q : Act → Prop} {k : Nat} {a : Act} (h : Q a) : wpVR P ops R I C mk Φ vs Q k [] a := h
end


/-- Operations that enter no function. -/
def plainOp (o : Oper) : Bool := match o.op with
  | .move _ | .assign _ | .pick _ _ _ | .build _ _ | .load _ _ | .binOp _ _ _ _ _ | .unOp _ _ _ | .convert _ _ _ | .fieldAddr _ _ _ | .field _ _ _ | .indexAddr _ _ _ | .index _ _ _ | .extract _ _ => true
  | .nilCheck _ => true
  | .call c => match c.callee with
    | .builtin .len => true
    | _ => false
  | _ => false
theorem bind_noEnter {P : Program} (s : Sem Value) (w w' : World) (f : FuncId) (args : Array Value) : (do pure (Next.value (← s)) : Sem Next).run P w ≠ .ok (.enter f args) w' := by
  simp only [Sem.run_bind]
  cases h : s.run P w with
  | ok u w1 => simp [Result.andThen, Sem.run_pure]
  | halt x w1 => simp [Result.andThen]
/-- No run of it enters a function. -/
def NE (s : Sem Next) : Prop := ∀ P w f args w', s.run P w ≠ .ok (.enter f args) w'
theorem NE.pure_ (n : Next) (h : ∀ f args, n ≠ .enter f args) : NE (pure n) := fun P w f args w' e => by
  simp only [Sem.run_pure, Result.ok.injEq] at e
  exact h _ _ e.1
theorem NE.halt (x : _) : NE (.halt x) := fun P w f args w' e => by cases e
theorem NE.bind {α : Type} (s : Sem α) (k : α → Sem Next) (h : ∀ x, NE (k x)) : NE (s >>= k) := fun P w f args w' e => by
  simp only [Sem.run_bind] at e
  cases hs : s.run P w with
  | ok u w1 => rw [hs] at e; exact h u P w1 f args w' e
  | halt x w1 => rw [hs] at e; cases e
theorem plain_noEnter {P : Program} {o : Oper} (h : plainOp o = true) : NoEnter P o := by
  intro ev w f args w'
  unfold plainOp at h
  unfold execOp
  cases hop : o.op
  all_goals (rw [hop] at h; simp only at h ⊢)
  all_goals try (exact absurd h (by decide))
  all_goals try exact bind_noEnter _ _ _ _ _
  all_goals try (simp only [Sem.run_pure]; simp; done)
  case pick c x y =>
    exact NE.bind _ _ (fun _ => NE.pure_ _ (by intro _ _ h; cases h)) _ _ _ _ _
  case nilCheck x =>
    generalize ev x = v
    refine (?_ : NE _) _ _ _ _ _
    have hp : NE (runtimePanic RuntimeError.nilDeref : Sem Next) := NE.bind _ _ fun _ => NE.halt _
    split
    all_goals first | exact hp | exact NE.pure_ _ (by intro _ _ h; cases h) | skip
    split
    all_goals first | exact hp | exact NE.pure_ _ (by intro _ _ h; cases h) | skip
    refine NE.bind _ _ fun _ => NE.bind _ _ fun _ => ?_
    split
    · exact NE.bind _ _ fun _ => NE.pure_ _ (by intro _ _ h; cases h)
    · exact NE.pure_ _ (by intro _ _ h; cases h)
  case call c =>
    cases hc : c.callee
    all_goals (rw [hc] at h; try simp only at h)
    all_goals try (exact absurd h (by decide))
    rename_i b
    cases b
    all_goals try (exact absurd h (by decide))
    simp only [resolve, hc, Sem.run_bind, Sem.run_pure, Result.andThen_ok]
    exact bind_noEnter _ _ _ _ _

end Go.Proofs.Ytlcpbdbdiahmjaa

