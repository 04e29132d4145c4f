/- Texts of this seat in one: M2 G1 G2 R0 M3 M5 M7. -/
import Derived.Test.YtlcpbdbdiahmjaaMA
import Derived.StillTail
import Derived.Barred
import Derived.Test.YtlcpbdbdiahmjaaMB
import Derived.Maps.AppendAt
import Derived.OneCell
import Derived.Deep.AppendLies
import Derived.Deep.RegionLaw
import Derived.Laws.ResultCell
import Derived.Deep.OwnRows

/- Regions that draw their order and make blocks: one walk in the order of the text, the values of the makers as letters. -/
namespace Go.Proofs.Ytlcpbdbdiahmjaa
open Go.RowKit

/-- A function of the program that hands back one slot. -/
def Probe (P : Program) : Prop := ∃ (g : FuncId) (fn : Func) (d : Nat), P.funcs[g]? = some fn ∧ P.inits.idxOf? g = none ∧ fn.results = #[.tmp d] ∧ d < 64

/-- What a call hands back is told by where it begins. -/
theorem calls_det {P : Program} (hp : Probe P) {f : FuncId} {args : Array Value} {w : World} {u u' : Value} {A B : World → Prop}
    (h : Calls P f args w fun e w' => e = .returned u ∧ A w') (h' : Calls P f args w fun e w' => e = .returned u' ∧ B w') : u = u' := by
  obtain ⟨g, fn, d, hg, hi, hr, hd⟩ := hp
  let o : Oper := { dst := some d, op := .move (.const undef), type := 0, pos := "", after := #[], guard := none }
  let c : Frame := { fn := g, tmps := Array.replicate 64 undef, todo := [.inRegion #[o] [0]], defers := [], mode := .returning, kind := .normal }
  have key : ∀ {v : Value} {C : World → Prop}, Calls P f args w (fun e w' => e = .returned v ∧ C w') → ∃ n w1, runN P n (lone (Frame.enter P f args .normal) [c] w) = .ended (.done v) w1 := by
    intro v C hc
    obtain ⟨e, w1, fr, ⟨rfl, _⟩, ⟨n, hn⟩, hfn, hl⟩ := hc [c]
    have s1 := step_leave_returned (c := c) (cs := []) hl
    have hl2 : (c.finish v).leaving P w1 (.returned v) := by
      refine ⟨rfl, rfl, rfl, fn, hg, ?_⟩
      simp [Frame.finish, c, o, results, hr, hd]
    have s2 := step_leave_done hl2 hi
    refine ⟨n + 2, w1, ?_⟩
    rw [runN_add, hn]
    simp only [runN, s1, s2]
  obtain ⟨n, w1, h1⟩ := key h
  obtain ⟨n', w2, h2⟩ := key h'
  have := runN_same_end h1 h2
  injection this

section
variable {P : Program} {ops : Array Oper} {md : Region.Mode} {C : World → Prop} {mk : Nat → Bool} {Φ : Nat → Value → World → Prop} {vs : Nat → Value}

/-- The block that a slice or a pointer leads to. -/
def blockOf : Value → Option Nat
  | .slice (some a) _ _ => some a.block
  | .pointer (some a) => some a.block
  | _ => none
/-- A block that was made between two worlds. -/
def FreshIn (w w' : World) (u : Value) : Prop := ∀ b, blockOf u = some b → w.heap.size ≤ b ∧ b < w'.heap.size
/-- A maker: from each world of the class it yields some value, in a world that leaves all old memory alone and of which the fact holds. -/
def makesUpon (P : Program) (w : World) (F : Value → World → Prop) : Result Next → Prop
  | .ok (.value u) w' => Below w.heap.size w w' ∧ F u w' ∧ FreshIn w w' u
  | .ok (.enter f args) w' => w' = w ∧ Calls P f args w (fun e w'' => ∃ u, e = .returned u ∧ Below w.heap.size w w'' ∧ F u w'' ∧ FreshIn w w'' u)
  | _ => False
def makesAt (P : Program) (o : Oper) (a : Act) (w : World) (F : Value → World → Prop) : Prop := makesUpon P w F ((execOp a.eval o).run P w)

theorem quiet_det (hp : Probe P) {o : Oper} {a : Act} {C C' : World → Prop} {w : World} {v v' : Value} (h : o.quietAt P a C w v) (h' : o.quietAt P a C' w v') : v = v' := by
  unfold Oper.quietAt at h h'
  generalize (execOp a.eval o).run P w = r at *
  cases r with
  | ok n w' =>
    cases n <;> simp only [Oper.quietUpon] at h h'
    case value u => exact h.2.symm.trans h'.2
    case skip => exact h.2.trans h'.2.symm
    case enter f args => exact calls_det hp h.2 h'.2
  | halt x w' => simp only [Oper.quietUpon] at h

def YieldsV (P : Program) (ops : Array Oper) (C : World → Prop) (mk : Nat → Bool) (Φ : Nat → Value → World → Prop) (vs : Nat → Value) (i : Nat) (o : Oper) (v : Value) (a : Act) : Prop :=
  (mk i = true ∧ Region.wanted o (yielded ops a.tmps) = true ∧ (∀ w, C w → makesAt P o a w (Φ i)) ∧ v = vs i) ∨
  (mk i = false ∧ Region.wanted o (yielded ops a.tmps) = true ∧ ∀ w, C w → o.quietAt P a C w v) ∨
  (mk i = false ∧ Region.wanted o (yielded ops a.tmps) = false ∧ v = undef)
/-- Operation number i comes up. -/
def vOp (P : Program) (ops : Array Oper) (C : World → Prop) (mk : Nat → Bool) (Φ : Nat → Value → World → Prop) (vs : Nat → Value) (i : Nat) (K : Act → Prop) (a : Act) : Prop :=
  match ops[i]? with
  | none => K a
  | some o => ∃ v, YieldsV P ops C mk Φ vs i o v a ∧ K (a.put o.dst v)

theorem vOp_mono {i : Nat} {a : Act} {K K' : Act → Prop} (h : ∀ a, K a → K' a) (hh : vOp P ops C mk Φ vs i K a) : vOp P ops C mk Φ vs i K' a := by
  unfold vOp at *
  split
  · exact h _ (by simpa [*] using hh)
  · rename_i o ho
    simp only [ho] at hh
    obtain ⟨v, h1, h2⟩ := hh
    exact ⟨v, h1, h _ h2⟩
theorem YieldsV.vOp {i : Nat} {o : Oper} {v : Value} {a : Act} (hi : ops[i]? = some o) (hy : YieldsV P ops C mk Φ vs i o v a) {K : Act → Prop} (h : K (a.put o.dst v)) : vOp P ops C mk Φ vs i K a := by
  unfold Go.Proofs.Ytlcpbdbdiahmjaa.vOp
  simp only [hi]
  exact ⟨v, hy, h⟩
theorem yields_of_vOp {i : Nat} {o : Oper} {a : Act} {K : Act → Prop} (hi : ops[i]? = some o) (h : vOp P ops C mk Φ vs i K a) : ∃ v, YieldsV P ops C mk Φ vs i o v a ∧ K (a.put o.dst v) := by
  unfold vOp at h
  simpa only [hi] using h
theorem YieldsV.of_same {i : Nat} {o : Oper} {v : Value} {a a' : Act} (hy : YieldsV P ops C mk Φ vs i o v a) (he : execOp a'.eval o = execOp a.eval o)
    (hw : Region.wanted o (yielded ops a'.tmps) = Region.wanted o (yielded ops a.tmps)) : YieldsV P ops C mk Φ vs i o v a' := by
  unfold YieldsV Oper.quietAt makesAt at *
  rw [he, hw]
  exact hy
theorem vOp_put {i j : Nat} {oi oj : Oper} {v : Value} (hj : ops[j]? = some oj) (hap : oi.apart ops oj = true)
    (hsi : ∀ cs b, oi.op ≠ .select cs b) (hsj : ∀ cs b, oj.op ≠ .select cs b) {K : Act → Prop} {a : Act}
    (hy : YieldsV P ops C mk Φ vs i oi v a) (h : vOp P ops C mk Φ vs j K (a.put oi.dst v)) :
    vOp P ops C mk Φ vs j (fun a' => YieldsV P ops C mk Φ vs i oi v a' ∧ K (a'.put oi.dst v)) a := by
  obtain ⟨h1, h2, h3⟩ := Oper.apart_spec hap
  obtain ⟨u, hu, hn⟩ := yields_of_vOp hj h
  refine YieldsV.vOp hj (hu.of_same (execOp_put oj hsj a oi.dst v h1).symm (wanted_put oj a oi.dst v h1).symm) ⟨?_, ?_⟩
  · exact hy.of_same (execOp_put oi hsi a oj.dst u h3) (wanted_put oi a oj.dst u h3)
  · rw [← Act.put_comm a v u h2]; exact hn

/-- The walk in the order of the text. -/
def wpV (P : Program) (ops : Array Oper) (C : World → Prop) (mk : Nat → Bool) (Φ : Nat → Value → World → Prop) (vs : Nat → Value) (Q : Act → Prop) : Nat → List Oper → Act → Prop
  | _, [], a => Q a
  | k, o :: rest, a => ∃ v, YieldsV P ops C mk Φ vs k o v a ∧ wpV P ops C mk Φ vs Q (k + 1) rest (a.put o.dst v)

def wpAnyV (P : Program) (md : Region.Mode) (ops : Array Oper) (C : World → Prop) (mk : Nat → Bool) (Φ : Nat → Value → World → Prop) (vs : Nat → Value) (n : Nat) (L : Array Bool → Act → Prop) : Nat → Array Bool → Act → Prop
  | 0, listed, a => L listed a
  | f + 1, listed, a =>
    Region.ready md ops listed ≠ [] ∧ ∀ i ∈ Region.ready md ops listed, i < n ∧ vOp P ops C mk Φ vs i (wpAnyV P md ops C mk Φ vs n L f (listed.setIfInBounds i true)) a

theorem wpAnyV_first {n i : Nat} {oi : Oper} {v : Value} {L : Array Bool → Act → Prop} (hi : ops[i]? = some oi) (hsel : ∀ (j : Nat) (o : Oper) cs b, ops[j]? = some o → o.op ≠ .select cs b)
    (hs : Region.sinkB md ops n = true) (hc : Region.chainB md ops n = true) (hn : n < ops.size) (hin : i < n)
    (hdone : ∀ listed a, L listed a → ∀ j ∈ Region.ready md ops listed, n ≤ j) :
    ∀ (f : Nat) (listed : Array Bool) (a : Act), HeadInv md ops n listed →
      (∀ j oj, ops[j]? = some oj → j ≠ i → listed.getD j true = false → (∀ e ∈ oj.after, Region.binds md e = true → e.on ≠ i) → oi.apart ops oj = true) →
      i ∈ Region.ready md ops listed → YieldsV P ops C mk Φ vs i oi v a →
      wpAnyV P md ops C mk Φ vs n L f (listed.setIfInBounds i true) (a.put oi.dst v) → wpAnyV P md ops C mk Φ vs n L (f + 1) listed a := by
  intro f
  induction f with
  | zero =>
    intro listed a inv _ hr hy H
    have hun := (mem_ready.1 hr).1
    refine ⟨fun h => (by rw [h] at hr; cases hr), fun j hj => ?_⟩
    have hjn : j < n := by
      rcases Nat.lt_or_ge j n with h | h
      · exact h
      · exact absurd hj (tail_waits hs hc hn inv _ i rfl hin hun j h)
    refine ⟨hjn, ?_⟩
    by_cases hji : j = i
    · subst hji; exact hy.vOp hi H
    · have := hdone _ _ H j (ready_mono hj hji)
      omega
  | succ f ih =>
    intro listed a inv hfree hr hy H
    have hun := (mem_ready.1 hr).1
    refine ⟨fun h => (by rw [h] at hr; cases hr), fun j hj => ?_⟩
    have hjn : j < n := by
      rcases Nat.lt_or_ge j n with h | h
      · exact h
      · exact absurd hj (tail_waits hs hc hn inv _ i rfl hin hun j h)
    refine ⟨hjn, ?_⟩
    by_cases hji : j = i
    · subst hji; exact hy.vOp hi H
    · have h1 := (H.2 j (ready_mono hj hji)).2
      obtain ⟨hjun, oj, hoj, hall⟩ := mem_ready.1 hj
      have hnot : ∀ e ∈ oj.after, Region.binds md e = true → e.on ≠ i := fun e he hb heq => by
        have h1 := hall e he hb
        rw [heq, getD_both hun] at h1
        cases h1
      have h2 := vOp_put hoj (hfree j oj hoj hji hjun hnot) (fun cs b => hsel i oi cs b hi) (fun cs b => hsel j oj cs b hoj) hy h1
      have hfree' : ∀ k ok, ops[k]? = some ok → k ≠ i → (listed.setIfInBounds j true).getD k true = false →
          (∀ e ∈ ok.after, Region.binds md e = true → e.on ≠ i) → oi.apart ops ok = true := fun k ok hk hki hun hno => by
        refine hfree k ok hk hki ?_ hno
        by_cases hjk : j = k
        · subst hjk; exact hjun
        · rw [getD_set_ne true hjk] at hun; exact hun
      refine vOp_mono (fun a' h3 => ih (listed.setIfInBounds j true) a' (inv.set hj hjn) hfree' (ready_mono hr (Ne.symm hji)) h3.1 ?_) h2
      rw [Array.setIfInBounds_comm _ _ hji]
      exact h3.2

theorem wpAnyV_lex {n g : Nat} {Lq : Act → Prop} (hsel : Region.noSelect ops = true) (hs : Region.sinkB md ops n = true) (hc : Region.chainB md ops n = true) (hn : n < ops.size) :
    ∀ (l : List Oper) (k : Nat) (listed : Array Bool) (a : Act), (∀ j, j < l.length → l[j]? = ops[k + j]?) → k + l.length = n → HeadInv md ops n listed → (∀ j, j < k → listed.getD j false = true) →
    Region.lexHead md ops g l.length k listed = true → wpV P ops C mk Φ vs Lq k l a →
    wpAnyV P md ops C mk Φ vs n (fun listed' a' => Region.seqB md ops g n listed' = true ∧ (∀ j, j < n → listed'.getD j false = true) ∧ Lq a') l.length listed a
  | [], k, listed, a, _, hk, _, hall, hB, h => by
    have : k = n := by simpa using hk
    subst this
    exact ⟨by simpa [Region.lexHead] using hB, hall, h⟩
  | o :: l, k, listed, a, hl, hk, inv, hall, hB, h => by
    have h0 : ops[k]? = some o := by simpa using (hl 0 (by simp)).symm
    simp only [List.length_cons, Region.lexHead, Bool.and_eq_true] at hB
    obtain ⟨⟨hr, hf⟩, hB'⟩ := hB
    have hkn : k < n := by simp only [List.length_cons] at hk; omega
    have hr' : k ∈ Region.ready md ops listed := by simpa using hr
    obtain ⟨v, hy, hK⟩ := h
    have hsz : k < listed.size := by rw [inv.size]; omega
    have hall' : ∀ j, j < k + 1 → (listed.setIfInBounds k true).getD j false = true := fun j hj => by
      by_cases e : k = j
      · subst e; simp [hsz]
      · rw [getD_set_ne false e]; exact hall j (by omega)
    exact wpAnyV_first h0 (Region.noSelect_spec hsel) hs hc hn hkn (fun listed' a' hL => seqB_ready hL.1) l.length listed a inv (Region.free_spec h0 hf) hr' hy
      (wpAnyV_lex hsel hs hc hn l (k + 1) _ _ (fun j hj => by have := hl (j + 1) (by simp; omega); simpa [Nat.add_assoc, Nat.add_comm 1 j] using this) (by simp only [List.length_cons] at hk; omega) (inv.set hr' hkn) hall' hB' hK)

theorem wp_of_makes {o : Oper} {a : Act} {w : World} {F : Value → World → Prop} {K : Act → World → Prop} {Q' : Exit → Act → World → Prop} (hh : makesAt P o a w F)
    (h : ∀ u w', Below w.heap.size w w' → F u w' → FreshIn w w' u → K (a.put o.dst u) w') : o.wp P a w K Q' := by
  unfold makesAt at hh
  unfold Oper.wp
  generalize (execOp a.eval o).run P w = r at *
  cases r with
  | ok n w' =>
    cases n <;> simp only [makesUpon] at hh <;> simp only [Oper.upon]
    case value u => exact h _ _ hh.1 hh.2.1 hh.2.2
    case enter f args =>
      obtain ⟨e1, hc⟩ := hh
      rw [e1]
      exact hc.mono fun e w'' ⟨u, he, hb, hF, hfr⟩ => by subst he; exact h _ _ hb hF hfr
  | halt x w' => simp only [makesUpon] at hh
theorem wp_of_quietE {o : Oper} {a : Act} {w : World} {v : Value} {K : Act → World → Prop} {Q' : Exit → Act → World → Prop} (hh : o.quietAt P a (fun w' => ∃ u : Ext w, w' = ext w u) w v)
    (h : ∀ w', Below w.heap.size w w' → K (a.put o.dst v) w') : o.wp P a w K Q' := by
  unfold Oper.quietAt at hh
  unfold Oper.wp
  generalize (execOp a.eval o).run P w = r at *
  cases r with
  | ok n w' =>
    cases n <;> simp only [Oper.quietUpon] at hh <;> simp only [Oper.upon]
    case value u => obtain ⟨e1, e2⟩ := hh; rw [e1, e2]; exact h _ (Below.refl _ _)
    case skip => obtain ⟨e1, e2⟩ := hh; rw [e1, ← e2]; exact h _ (Below.refl _ _)
    case enter f args =>
      obtain ⟨e1, hc⟩ := hh
      rw [e1]
      exact hc.mono fun e w'' ⟨he, u, hu⟩ => by subst he; rw [hu]; exact h _ u.below
  | halt x w' => simp only [Oper.quietUpon] at hh
end

/-- The worlds that leave the old memory of this one alone. -/
abbrev extC (w : World) : World → Prop := fun w' => ∃ u : Ext w, w' = ext w u
theorem extC_of {w w' : World} (h : Below w.heap.size w w') : extC w w' := ⟨⟨w', h⟩, rfl⟩

section
variable {P : Program} {ops : Array Oper} {mk : Nat → Bool} {Φ : Nat → Value → World → Prop}

/-- The blocks that the makers that have come up lead to: all there, no two the same. -/
def ApartV (mk : Nat → Bool) (listed : Array Bool) (val : Nat → Value) (w : World) : Prop :=
  (∀ i, mk i = true → listed.getD i false = true → ∀ b, blockOf (val i) = some b → b < w.heap.size) ∧
  (∀ i j, i ≠ j → mk i = true → mk j = true → listed.getD i false = true → listed.getD j false = true → ∀ b, blockOf (val i) = some b → blockOf (val j) ≠ some b)
theorem ApartV.next {listed : Array Bool} {val : Nat → Value} {w w' : World} (h : ApartV mk listed val w) (hb : Below w.heap.size w w') : ApartV mk listed val w' :=
  ⟨fun i h1 h2 b h3 => Nat.lt_of_lt_of_le (h.1 i h1 h2 b h3) hb.size, h.2⟩
theorem ApartV.quiet {listed : Array Bool} {val : Nat → Value} {w : World} {i : Nat} (h : ApartV mk listed val w) (hi : mk i = false) : ApartV mk (listed.setIfInBounds i true) val w := by
  have back : ∀ j, mk j = true → (listed.setIfInBounds i true).getD j false = true → listed.getD j false = true := fun j hj hl => by
    rw [getD_set_ne false (fun e => by rw [← e, hi] at hj; cases hj)] at hl; exact hl
  exact ⟨fun j h1 h2 => h.1 j h1 (back j h1 h2), fun j k hne h1 h2 h3 h4 => h.2 j k hne h1 h2 (back j h1 h3) (back k h2 h4)⟩
theorem ApartV.made {listed : Array Bool} {val : Nat → Value} {w w' : World} {i : Nat} {u : Value} (h : ApartV mk listed val w) (hb : Below w.heap.size w w') (hf : FreshIn w w' u) :
    ApartV mk (listed.setIfInBounds i true) (fun j => if j = i then u else val j) w' := by
  have back : ∀ j, j ≠ i → (listed.setIfInBounds i true).getD j false = true → listed.getD j false = true := fun j hj hl => by
    rw [getD_set_ne false (Ne.symm hj)] at hl; exact hl
  refine ⟨fun j h1 h2 b h3 => ?_, fun j k hne h1 h2 h3 h4 b h5 h6 => ?_⟩
  · by_cases e : j = i
    · subst e; simp only [if_true] at h3; exact (hf b h3).2
    · simp only [e, if_false] at h3; exact Nat.lt_of_lt_of_le (h.1 j h1 (back j e h2) b h3) hb.size
  · by_cases e : j = i
    · have e' : k ≠ i := fun e2 => hne (e.trans e2.symm)
      simp only [e, if_true] at h5
      simp only [e', if_false] at h6
      have := h.1 k h2 (back k e' h4) b h6
      have := (hf b h5).1
      omega
    · simp only [e, if_false] at h5
      have l5 := h.1 j h1 (back j e h3) b h5
      by_cases e' : k = i
      · simp only [e', if_true] at h6
        have := (hf b h6).1
        omega
      · simp only [e', if_false] at h6
        exact h.2 j k hne h1 h2 (back j e h3) (back k e' h4) b h5 h6

theorem wpAny_of_V (hp : Probe P) {n g : Nat} {w0 : World} {L : (Nat → Value) → Array Bool → Act → Prop} {Q' : Exit → Act → World → Prop} {Sh : Nat → Value → Prop} (hΦ : ∀ i v w w', Φ i v w → Below w.heap.size w w' → Φ i v w') (hSh : ∀ i v w, mk i = true → Φ i v w → Sh i v)
    (hL : ∀ listed a w1 (val : Nat → Value), Below w0.heap.size w0 w1 → (∀ i, mk i = true → listed.getD i false = true → Φ i (val i) w1) → ApartV mk listed val w1 → L val listed a → wpAny P .any ops Q' g listed a w1) :
    ∀ (f : Nat) (listed : Array Bool) (a : Act) (w1 : World) (val : Nat → Value), (∀ i, mk i = true → Sh i (val i)) → Below w0.heap.size w0 w1 → (∀ i, mk i = true → listed.getD i false = true → Φ i (val i) w1) → ApartV mk listed val w1 →
      (∀ W, Below w0.heap.size w0 W → ∀ vs, (∀ i, mk i = true → Sh i (vs i)) → (∀ i, mk i = true → listed.getD i false = true → vs i = val i) → wpAnyV P .any ops (extC W) mk Φ vs n (L vs) f listed a) → wpAny P .any ops Q' (f + g) listed a w1
  | 0, listed, a, w1, val, hv, hb, hf, hap, h => by
    rw [Nat.zero_add]
    exact hL _ _ _ _ hb hf hap (h w0 (Below.refl _ _) val hv (fun _ _ _ => rfl))
  | f + 1, listed, a, w1, val, hv, hb, hf, hap, h => by
    rw [show f + 1 + g = (f + g) + 1 by omega]
    have h0 := h w1 hb val hv (fun _ _ _ => rfl)
    refine ⟨fun e => absurd e h0.1, fun i hi => ?_⟩
    have hun := (mem_ready.1 hi).1
    obtain ⟨oi, hoi, _⟩ := (mem_ready.1 hi).2
    have hne : ∀ j, listed.getD j false = true → j ≠ i := fun j hj e => by
      subst e
      rw [getD_both hun] at hj
      cases hj
    have hset : ∀ j, j ≠ i → (listed.setIfInBounds i true).getD j false = true → listed.getD j false = true := fun j hj e => by
      rw [getD_set_ne false (Ne.symm hj)] at e; exact e
    obtain ⟨v1, hy1, _⟩ := yields_of_vOp hoi (h0.2 i hi).2
    unfold wpOp
    simp only [hoi]
    rcases hy1 with ⟨hmk, hw, hm, _⟩ | ⟨hmk, hw, hq⟩ | ⟨hmk, hw, rfl⟩
    · rw [if_pos hw]
      refine .inl (wp_of_makes (hm w1 (extC_of (Below.refl _ _))) fun u w2 hb2 hu hfr => ?_)
      refine wpAny_of_V (n := n) hp hΦ hSh hL f _ _ w2 (fun j => if j = i then u else val j) (fun j hj => (by
        by_cases e : j = i
        · subst e; simp only [if_true]; exact hSh _ _ _ hj hu
        · simp only [e, if_false]; exact hv j hj)) (hb.trans (hb2.mono hb.size)) (fun j hj hl => ?_) (hap.made hb2 hfr) (fun W hW vs hvs hag => ?_)
      · by_cases e : j = i
        · subst e; simp only [if_true]; exact hu
        · simp only [e, if_false]; exact hΦ _ _ _ _ (hf j hj (hset j e hl)) hb2
      · have h1 := h W hW vs hvs (fun j hj hl => by
          have hji := hne j hl
          have := hag j hj (by rw [getD_set_ne false (Ne.symm hji)]; exact hl)
          simpa [hji] using this)
        obtain ⟨v2, hy2, hK⟩ := yields_of_vOp hoi (h1.2 i hi).2
        have hv2 : v2 = vs i := by
          rcases hy2 with ⟨_, _, _, e⟩ | ⟨e, _⟩ | ⟨e, _⟩
          · exact e
          · rw [hmk] at e; cases e
          · rw [hmk] at e; cases e
        have hvi : vs i = u := by
          have := hag i hmk (by
            have hsz : i < listed.size := by
              rcases Nat.lt_or_ge i listed.size with h' | h'
              · exact h'
              · simp [Array.getElem?_eq_none h'] at hun
            simp [hsz])
          simpa using this
        rw [hv2, hvi] at hK
        exact hK
    · rw [if_pos hw]
      refine .inl (wp_of_quietE (hq w1 (extC_of (Below.refl _ _))) fun w2 hb2 => ?_)
      refine wpAny_of_V (n := n) hp hΦ hSh hL f _ _ w2 val hv (hb.trans (hb2.mono hb.size)) (fun j hj hl => ?_) ((hap.next hb2).quiet hmk) (fun W hW vs hvs hag => ?_)
      · have hji : j ≠ i := fun e => by rw [e, hmk] at hj; cases hj
        exact hΦ _ _ _ _ (hf j hj (hset j hji hl)) hb2
      · have hag' : ∀ j, mk j = true → listed.getD j false = true → vs j = val j := fun j hj hl => hag j hj (by
          rw [getD_set_ne false (Ne.symm (hne j hl))]; exact hl)
        obtain ⟨v2, hy2, hK⟩ := yields_of_vOp hoi ((h W hW vs hvs hag').2 i hi).2
        obtain ⟨v0, hy0, _⟩ := yields_of_vOp hoi ((h w0 (Below.refl _ _) vs hvs hag').2 i hi).2
        have q0 : ∀ w, extC w0 w → oi.quietAt P a (extC w0) w v0 := by
          rcases hy0 with ⟨e, _⟩ | ⟨_, _, e⟩ | ⟨_, e, _⟩
          · rw [hmk] at e; cases e
          · exact e
          · rw [hw] at e; cases e
        have q2 : ∀ w, extC W w → oi.quietAt P a (extC W) w v2 := by
          rcases hy2 with ⟨e, _⟩ | ⟨_, _, e⟩ | ⟨_, e, _⟩
          · rw [hmk] at e; cases e
          · exact e
          · rw [hw] at e; cases e
        have e1 : v0 = v1 := quiet_det hp (q0 w1 (extC_of hb)) (hq w1 (extC_of (Below.refl _ _)))
        have e2 : v0 = v2 := quiet_det hp (q0 W (extC_of hW)) (q2 W (extC_of (Below.refl _ _)))
        rw [← e2, e1] at hK
        exact hK
    · rw [if_neg (by rw [hw]; simp)]
      refine wpAny_of_V (n := n) hp hΦ hSh hL f _ _ w1 val hv hb (fun j hj hl => ?_) (hap.quiet hmk) (fun W hW vs hvs hag => ?_)
      · have hji : j ≠ i := fun e => by rw [e, hmk] at hj; cases hj
        exact hf j hj (hset j hji hl)
      · have hag' : ∀ j, mk j = true → listed.getD j false = true → vs j = val j := fun j hj hl => hag j hj (by
          rw [getD_set_ne false (Ne.symm (hne j hl))]; exact hl)
        obtain ⟨v2, hy2, hK⟩ := yields_of_vOp hoi ((h W hW vs hvs hag').2 i hi).2
        have e2 : v2 = undef := by
          rcases hy2 with ⟨e, _⟩ | ⟨_, e, _⟩ | ⟨_, _, e⟩
          · rw [hmk] at e; cases e
          · rw [hw] at e; cases e
          · exact e
        rw [e2] at hK
        exact hK

/-- A region of quiet operations and makers ahead of a tail in forced order. -/
theorem wp_region_makers {id : Nat} {Q : Exit → Act → World → Prop} {a : Act} {w : World} {l : List Oper} (n : Nat) (mk : Nat → Bool) (Φ : Nat → Value → World → Prop) (Sh : Nat → Value → Prop) (vs0 : Nat → Value) (hp : Probe P) (hm : P.follows .mixedOrders = true) (hB : Region.lexTailB .any l.toArray n = true)
    (hΦ : ∀ i v w w', Φ i v w → Below w.heap.size w w' → Φ i v w') (hSh : ∀ i v w, mk i = true → Φ i v w → Sh i v) (hv0 : ∀ i, mk i = true → Sh i (vs0 i))
    (h : ∀ W, Below w.heap.size w W → ∀ vs, (∀ i, mk i = true → Sh i (vs i)) → wpV P l.toArray (extC W) mk Φ vs (fun a' => ∀ w1, Below w.heap.size w w1 → (∀ i, i < n → mk i = true → Φ i (vs i) w1) → (∀ i j, i < n → j < n → i ≠ j → mk i = true → mk j = true → ∀ b, blockOf (vs i) = some b → blockOf (vs j) ≠ some b) → wpList P l.toArray Q (l.drop n) a' w1) 0 (l.take n) a) :
    (Code.region id l.toArray true).wp P Q a w := by
  simp only [Region.lexTailB, Bool.and_eq_true, decide_eq_true_eq] at hB
  obtain ⟨⟨⟨⟨hsel, hn⟩, hs⟩, hc⟩, hlex⟩ := hB
  have hn' : n < l.length := by simpa using hn
  have htl : (l.take n).length = n := by simp; omega
  have hdl : (l.drop n).length = l.toArray.size - n := by simp
  have inv0 : HeadInv .any l.toArray n (Array.replicate l.toArray.size false) :=
    ⟨by simp, fun j oj _ hl => (by rw [getD_replicate_false] at hl; cases hl), fun t _ ht => getD_in (by simpa using ht) (getD_replicate_false _ _)⟩
  have bw : Below w.heap.size w w.drew := (Below.refl _ _).drew
  refine wp_region_any hm ?_
  have H := fun W (hW : Below w.heap.size w W) vs hvs => wpAnyV_lex (md := .any) (C := extC W) (mk := mk) (Φ := Φ) (vs := vs) (g := l.toArray.size - n) hsel hs hc hn (l.take n) 0 _ a (fun j hj => by
    have hj' : j < n := by rw [htl] at hj; exact hj
    simp [hj']) (by simpa using htl) inv0 (fun j hj => absurd hj (by omega)) (by rw [htl]; exact hlex) (h W hW vs hvs)
  have := wpAny_of_V (Q' := Q) (w0 := w) (n := n) (g := l.toArray.size - n) (L := fun vs listed' a' => Region.seqB .any l.toArray (l.toArray.size - n) n listed' = true ∧ (∀ j, j < n → listed'.getD j false = true) ∧
      ∀ w1, Below w.heap.size w w1 → (∀ i, i < n → mk i = true → Φ i (vs i) w1) → (∀ i j, i < n → j < n → i ≠ j → mk i = true → mk j = true → ∀ b, blockOf (vs i) = some b → blockOf (vs j) ≠ some b) → wpList P l.toArray Q (l.drop n) a' w1) hp hΦ hSh
    (fun listed a' w1 val hb hf hap hL' => by
      have := wpAny_of_seq (md := .any) (Q' := Q) (l.drop n) n listed a' w1 (fun j => by simp [List.getElem?_drop]) (by rw [hdl]; exact hL'.1) (hL'.2.2 w1 hb (fun i hi hmk => hf i hmk (hL'.2.1 i hi)) (fun i j hi hj hne h1 h2 => hap.2 i j hne h1 h2 (hL'.2.1 i hi) (hL'.2.1 j hj)))
      rwa [hdl] at this)
    (l.take n).length (Array.replicate l.toArray.size false) a w.drew vs0 hv0 bw (fun i _ hl => by rw [getD_replicate_false] at hl; cases hl) ⟨fun i _ hl => (by rw [getD_replicate_false] at hl; cases hl), fun i j _ _ _ hl => (by rw [getD_replicate_false] at hl; cases hl)⟩ (fun W hW vs hvs _ => H W hW vs hvs)
  rw [htl, show n + (l.toArray.size - n) = l.toArray.size by omega] at this
  exact this

/-- A stretch of quiet operations. -/
theorem wpV_quiet {C : World → Prop} {vs : Nat → Value} {Q : Act → Prop} (hC : ∃ w, C w) : ∀ (m k : Nat) (l : List Oper) (a : Act), (∀ j, j < m → mk (k + j) = false) → m ≤ l.length →
    wpQuiet P ops C (fun a' => wpV P ops C mk Φ vs Q (k + m) (l.drop m) a') (l.take m) a → wpV P ops C mk Φ vs Q k l a
  | 0, k, l, a, _, _, h => by simpa [wpQuiet] using h
  | m + 1, k, [], a, _, hl, _ => by simp at hl
  | m + 1, k, o :: rest, a, hk, hl, h => by
    simp only [List.take_succ_cons, List.drop_succ_cons] at h
    have hk' : ∀ j, j < m → mk (k + 1 + j) = false := fun j h1 => by rw [show k + 1 + j = k + (j + 1) by omega]; exact hk (j + 1) (by omega)
    have hl' : m ≤ rest.length := by simpa using hl
    have go : ∀ a', wpQuiet P ops C (fun a' => wpV P ops C mk Φ vs Q (k + (m + 1)) (rest.drop m) a') (rest.take m) a' → wpV P ops C mk Φ vs Q (k + 1) rest a' := fun a' h' =>
      wpV_quiet hC m (k + 1) rest a' hk' hl' (by rw [show k + 1 + m = k + (m + 1) by omega]; exact h')
    unfold wpQuiet at h
    unfold wpV
    by_cases hw : Region.wanted o (yielded ops a.tmps) = true
    · rw [if_pos hw] at h
      obtain ⟨v, h1, h2⟩ := h
      exact ⟨v, .inr (.inl ⟨hk 0 (by omega), hw, h1⟩), go _ h2⟩
    · rw [if_neg hw] at h
      exact ⟨undef, .inr (.inr ⟨hk 0 (by omega), by simpa using hw, rfl⟩), go _ h⟩
theorem wpV_nil {C : World → Prop} {vs : Nat → Value} {Q : Act → Prop} {k : Nat} {a : Act} (h : Q a) : wpV P ops C mk Φ vs Q k [] a := h
end

end Go.Proofs.Ytlcpbdbdiahmjaa



/- A ring that is built in a box of its own: two slices that grow. -/
namespace Go.Proofs.Ytlcpbdbdiahmjaa
open Go.RowKit

/-- A box whose two slices are the call's own, and share no block. -/
structure Grow (D : Nat) (w : World) (bx : Nat) (n o : Int) (v2 v3 : Value) (k2 k3 : Nat) (X Y : List Int) : Prop where
  box : Blk w bx 25 #[.int .i64 n, .int .i64 o, v2, v3]
  hD : D ≤ bx
  o2 : w.ownsRow D 3 1 v2 k2 (X.map (.int .i64))
  o3 : w.ownsRow D 3 1 v3 k3 (Y.map (.int .i64))
  n2 : v2.ownBlock ≠ some bx
  n3 : v3.ownBlock ≠ some bx
  n23 : ∀ g, v2.ownBlock = some g → v3.ownBlock ≠ some g
theorem Grow.keep {D : Nat} {w w' : World} {bx : Nat} {n o : Int} {v2 v3 : Value} {k2 k3 : Nat} {X Y : List Int} (h : Grow D w bx n o v2 v3 k2 k3 X Y) (hb : Below w.heap.size w w') : Grow D w' bx n o v2 v3 k2 k3 X Y :=
  ⟨h.box.below hb h.box.lt, h.hD, h.o2.kept (Below.grown_ hb) (by cases v2.ownBlock <;> simp), h.o3.kept (Below.grown_ hb) (by cases v3.ownBlock <;> simp), h.n2, h.n3, h.n23⟩

end Go.Proofs.Ytlcpbdbdiahmjaa



/- The integers by a number, as the reading side makes them. -/
namespace Go.Proofs.Ytlcpbdbdiahmjaa
open Go.RowKit

/-- A ring that a call made: its slices are its own, and share no block. -/
def NewRing (D : Nat) (w : World) (v : Value) (n o : Int) (k : Nat) (X Y : List Int) : Prop :=
  ∃ v2 v3, v = .agg #[.int .i64 n, .int .i64 o, v2, v3] ∧ w.ownsRow D 3 1 v2 k (X.map (.int .i64)) ∧ w.ownsRow D 3 1 v3 k (Y.map (.int .i64)) ∧ (∀ g, v2.ownBlock = some g → v3.ownBlock ≠ some g)

theorem NewRing.mono {D D' : Nat} {w : World} {v : Value} {n o : Int} {k : Nat} {X Y : List Int} (h : NewRing D w v n o k X Y) (hD : D' ≤ D) : NewRing D' w v n o k X Y := by
  obtain ⟨v2, v3, rfl, h2, h3, h4⟩ := h
  exact ⟨v2, v3, rfl, own_base h2 hD, own_base h3 hD, h4⟩
end Go.Proofs.Ytlcpbdbdiahmjaa



/- Rings that a call hands out: own memory. -/
namespace Go.Proofs.Ytlcpbdbdiahmjaa
open Go.RowKit

/-- A ring whose memory is the call's own. -/
def RingOut (D : Nat) (w : World) (v : Value) (n o : Int) (X Y : List Int) : Prop :=
  ∃ (A : Option Addr) (la ca : Nat) (B : Option Addr) (lb cb : Nat), v = .agg #[.int .i64 n, .int .i64 o, .slice A la ca, .slice B lb cb] ∧ Own w D A la X ∧ Own w D B lb Y ∧ Apart A la B lb ∧ la ≤ 1048570 ∧ lb ≤ 1048570 ∧ la + lb ≤ 1048570 ∧ la ≤ ca ∧ lb ≤ cb
theorem RingOut.zero {D : Nat} {w : World} : RingOut D w (.agg #[.int .i64 0, .int .i64 0, .slice none 0 0, .slice none 0 0]) 0 0 [] [] :=
  ⟨none, 0, 0, none, 0, 0, rfl, Own.nil, Own.nil, fun p h => (by obtain ⟨_, _, _, e, _⟩ := h; cases e), by omega, by omega, by omega, by omega, by omega⟩
theorem RingOut.next {D : Nat} {w w' : World} {v : Value} {n o : Int} {X Y : List Int} (h : RingOut D w v n o X Y) (hb : Below w.heap.size w w') : RingOut D w' v n o X Y := by
  obtain ⟨A, la, ca, B, lb, cb, e, h1, h2, h3⟩ := h
  exact ⟨A, la, ca, B, lb, cb, e, h1.next hb, h2.next hb, h3⟩
theorem NewRing.out {D : Nat} {w : World} {v : Value} {n o : Int} {k : Nat} {X Y : List Int} (h : NewRing D w v n o k X Y) (hk : k ≤ 1000) (hX : X.length = k) (hY : Y.length = k) : RingOut D w v n o X Y := by
  obtain ⟨v2, v3, rfl, h2, h3, h4⟩ := h
  rcases h2.2 with ⟨rfl, hk0⟩ | ⟨g, cap, cur, rfl, _, _, hc, _⟩
  · subst hk0
    obtain rfl := List.eq_nil_of_length_eq_zero hX
    obtain rfl := List.eq_nil_of_length_eq_zero hY
    rcases h3.2 with ⟨rfl, _⟩ | ⟨g', cap', cur', rfl, _⟩
    · exact ⟨none, 0, 0, none, 0, 0, rfl, Own.nil, Own.nil, fun p h => (by obtain ⟨_, _, _, e, _⟩ := h; cases e), by omega, by omega, by omega, by omega, by omega⟩
    · exact ⟨none, 0, 0, some ⟨g', 0, none⟩, 0, cap', rfl, Own.nil, Own.nil, fun p h => (by obtain ⟨_, _, _, e, _⟩ := h; cases e), by omega, by omega, by omega, by omega, by omega⟩
  · rcases h3.2 with ⟨rfl, hk0⟩ | ⟨g', cap', cur', rfl, _, _, hc', _⟩
    · subst hk0
      obtain rfl := List.eq_nil_of_length_eq_zero hX
      obtain rfl := List.eq_nil_of_length_eq_zero hY
      exact ⟨some ⟨g, 0, none⟩, 0, cap, none, 0, 0, rfl, Own.nil, Own.nil, fun p _ h => (by obtain ⟨_, _, _, e, _⟩ := h; cases e), by omega, by omega, by omega, by omega, by omega⟩
    · refine ⟨some ⟨g, 0, none⟩, k, cap, some ⟨g', 0, none⟩, k, cap', rfl, own_of_row h2 hX, own_of_row h3 hY, ?_, by omega, by omega, by omega, hc, hc'⟩
      rintro p ⟨q, off, j, e, _, rfl⟩ ⟨q', off', j', e', _, ep⟩
      have e1 : g = q := by simpa using congrArg (fun x => x.map Addr.block) e
      have e2 : g' = q' := by simpa using congrArg (fun x => x.map Addr.block) e'
      have e3 : q = q' := by injection ep
      exact h4 g rfl (by rw [e1, e3, ← e2]; rfl)

theorem results_cell_flag {P : Program} {fn : Func} {p u : Tmp} {ty : TypeId} (h : fn.results = #[.cell p ty, .tmp u]) (tmps : Array Value) (w : World) (g : Nat) (t : TypeId) (cs : Array Value) (d : TypeDesc) (b : Value)
    (hp : tmps.getD p undef = .pointer (some ⟨g, 0, none⟩)) (hb : tmps.getD u undef = b) (hg : Blk w g t cs)
    (hu : P.underlying ty = some d) (hd : (match d with | .struct _ | .array _ _ => true | _ => false) = true) (hi : (P.info? ty).map (·.size) = some cs.size) :
    (results fn tmps).run P w = .ok (.tuple #[.agg cs, b]) w := by
  rw [results_cell_tmp h, hp, hb]
  simp [asAddr, run_loadVar_row w g t ty cs (0, 0) d hg hu hd hi]

end Go.Proofs.Ytlcpbdbdiahmjaa



/- Makers: rows of ints, boxes of rings. -/
namespace Go.Proofs.Ytlcpbdbdiahmjaa
open Go.RowKit
set_option maxRecDepth 100000

theorem probe : Probe Try.prog := ⟨72, Try.f72, 4, by kernel_rfl, by kernel_rfl, by kernel_rfl, by decide⟩
end Go.Proofs.Ytlcpbdbdiahmjaa



/- Regions that draw their order and make blocks: makers that lean on makers. -/
namespace Go.Proofs.Ytlcpbdbdiahmjaa
open Go.RowKit

section
variable {P : Program} {ops : Array Oper} {md : Region.Mode} {C : World → Prop} {mk : Nat → Bool} {Φ : Nat → Value → World → Prop} {vs : Nat → Value}

/-- The block that a slice leads to. -/
def sliceBlocks : Value → List Nat
  | .slice (some a) _ _ => [a.block]
  | _ => []
/-- The blocks that a value leads to: of a slice, a pointer, a ring with a flag. -/
def blocksOf : Value → List Nat
  | .slice (some a) _ _ => [a.block]
  | .pointer (some a) => [a.block]
  | .tuple vs => match vs.getD 0 undef with
    | .agg cs => sliceBlocks (cs.getD 2 undef) ++ sliceBlocks (cs.getD 3 undef)
    | _ => []
  | _ => []
/-- A block that was made between two worlds. -/
def FreshInD (w w' : World) (u : Value) : Prop := ∀ b, b ∈ blocksOf u → w.heap.size ≤ b ∧ b < w'.heap.size
/-- A maker: from each world of the class it yields some value, in a world that leaves all old memory alone and of which the fact holds. -/
def makesUponD (P : Program) (w : World) (F : Value → World → Prop) : Result Next → Prop
  | .ok (.value u) w' => Below w.heap.size w w' ∧ F u w' ∧ FreshInD w w' u
  | .ok (.enter f args) w' => w' = w ∧ Calls P f args w (fun e w'' => ∃ u, e = .returned u ∧ Below w.heap.size w w'' ∧ F u w'' ∧ FreshInD w w'' u)
  | _ => False
def makesAtD (P : Program) (o : Oper) (a : Act) (w : World) (F : Value → World → Prop) : Prop := makesUponD P w F ((execOp a.eval o).run P w)


/-- The facts of the makers that an operation waits for. -/
def depsOk (mk : Nat → Bool) (Φ : Nat → Value → World → Prop) (vs : Nat → Value) (o : Oper) (w : World) : Prop := ∀ e ∈ o.after, Region.binds .any e = true → mk e.on = true → Φ e.on (vs e.on) w
def YieldsVD (P : Program) (ops : Array Oper) (C : World → Prop) (mk : Nat → Bool) (Φ : Nat → Value → World → Prop) (vs : Nat → Value) (i : Nat) (o : Oper) (v : Value) (a : Act) : Prop :=
  (mk i = true ∧ Region.wanted o (yielded ops a.tmps) = true ∧ (∀ w, C w → depsOk mk Φ vs o w → makesAtD P o a w (Φ i)) ∧ v = vs i) ∨
  (mk i = false ∧ Region.wanted o (yielded ops a.tmps) = true ∧ ∀ w, C w → o.quietAt P a C w v) ∨
  (mk i = false ∧ Region.wanted o (yielded ops a.tmps) = false ∧ v = undef)
theorem YieldsVD.of_same {i : Nat} {o : Oper} {v : Value} {a a' : Act} (hy : YieldsVD P ops C mk Φ vs i o v a) (he : execOp a'.eval o = execOp a.eval o)
    (hw : Region.wanted o (yielded ops a'.tmps) = Region.wanted o (yielded ops a.tmps)) : YieldsVD P ops C mk Φ vs i o v a' := by
  unfold YieldsVD Oper.quietAt makesAtD at *
  rw [he, hw]
  exact hy
end

section
variable {P : Program} {ops : Array Oper} {mk : Nat → Bool} {Φ : Nat → Value → World → Prop}

/-- The blocks that the makers that have come up lead to: all there, no two the same. -/
def ApartVD (mk : Nat → Bool) (listed : Array Bool) (val : Nat → Value) (w : World) : Prop :=
  (∀ i, mk i = true → listed.getD i false = true → ∀ b, b ∈ blocksOf (val i) → b < w.heap.size) ∧
  (∀ i j, i ≠ j → mk i = true → mk j = true → listed.getD i false = true → listed.getD j false = true → ∀ b, b ∈ blocksOf (val i) → b ∉ blocksOf (val j))
theorem ApartVD.next {listed : Array Bool} {val : Nat → Value} {w w' : World} (h : ApartVD mk listed val w) (hb : Below w.heap.size w w') : ApartVD mk listed val w' :=
  ⟨fun i h1 h2 b h3 => Nat.lt_of_lt_of_le (h.1 i h1 h2 b h3) hb.size, h.2⟩
theorem ApartVD.quiet {listed : Array Bool} {val : Nat → Value} {w : World} {i : Nat} (h : ApartVD mk listed val w) (hi : mk i = false) : ApartVD mk (listed.setIfInBounds i true) val w := by
  have back : ∀ j, mk j = true → (listed.setIfInBounds i true).getD j false = true → listed.getD j false = true := fun j hj hl => by
    rw [getD_set_ne false (fun e => by rw [← e, hi] at hj; cases hj)] at hl; exact hl
  exact ⟨fun j h1 h2 => h.1 j h1 (back j h1 h2), fun j k hne h1 h2 h3 h4 => h.2 j k hne h1 h2 (back j h1 h3) (back k h2 h4)⟩
theorem ApartVD.made {listed : Array Bool} {val : Nat → Value} {w w' : World} {i : Nat} {u : Value} (h : ApartVD mk listed val w) (hb : Below w.heap.size w w') (hf : FreshInD w w' u) :
    ApartVD mk (listed.setIfInBounds i true) (fun j => if j = i then u else val j) w' := by
  have back : ∀ j, j ≠ i → (listed.setIfInBounds i true).getD j false = true → listed.getD j false = true := fun j hj hl => by
    rw [getD_set_ne false (Ne.symm hj)] at hl; exact hl
  refine ⟨fun j h1 h2 b h3 => ?_, fun j k hne h1 h2 h3 h4 b h5 h6 => ?_⟩
  · by_cases e : j = i
    · subst e; simp only [if_true] at h3; exact (hf b h3).2
    · simp only [e, if_false] at h3; exact Nat.lt_of_lt_of_le (h.1 j h1 (back j e h2) b h3) hb.size
  · by_cases e : j = i
    · have e' : k ≠ i := fun e2 => hne (e.trans e2.symm)
      simp only [e, if_true] at h5
      simp only [e', if_false] at h6
      have := h.1 k h2 (back k e' h4) b h6
      have := (hf b h5).1
      omega
    · simp only [e, if_false] at h5
      have l5 := h.1 j h1 (back j e h3) b h5
      by_cases e' : k = i
      · simp only [e', if_true] at h6
        have := (hf b h6).1
        omega
      · simp only [e', if_false] at h6
        exact h.2 j k hne h1 h2 (back j e h3) (back k e' h4) b h5 h6

end

end Go.Proofs.Ytlcpbdbdiahmjaa



/- Regions that draw their order and call functions that change a state: one walk, over any relation between worlds and an invariant with fuel. -/
namespace Go.Proofs.Ytlcpbdbdiahmjaa
open Go.RowKit

section
variable {P : Program} {ops : Array Oper} {md : Region.Mode} {R : World → World → Prop} {I : Nat → World → Prop} {C : World → Prop} {mk : Nat → Bool} {Φ : Nat → Value → World → Prop} {vs : Nat → Value}

/-- A maker: it yields some value, in a world that stands to this one as the relation says, of which the invariant and the fact hold. -/
def makesUponR (P : Program) (R : World → World → Prop) (J : World → Prop) (w : World) (F : Value → World → Prop) : Result Next → Prop
  | .ok (.value u) w' => R w w' ∧ J w' ∧ F u w'
  | .ok .skip w' => R w w' ∧ J w' ∧ F undef w'
  | .ok (.enter f args) w' => w' = w ∧ Calls P f args w (fun e w'' => ∃ u, e = .returned u ∧ R w w'' ∧ J w'' ∧ F u w'')
  | _ => False
def makesAtR (P : Program) (R : World → World → Prop) (J : World → Prop) (o : Oper) (a : Act) (w : World) (F : Value → World → Prop) : Prop := makesUponR P R J w F ((execOp a.eval o).run P w)
/-- An operation that enters no function. -/
def NoEnter (P : Program) (o : Oper) : Prop := ∀ ev w f args w', (execOp ev o).run P w ≠ .ok (.enter f args) w'

/-- The facts of the makers that an operation waits for. -/
def depsOkR (mk : Nat → Bool) (Φ : Nat → Value → World → Prop) (vs : Nat → Value) (o : Oper) (w : World) : Prop := ∀ e ∈ o.after, Region.binds .any e = true → mk e.on = true → Φ e.on (vs e.on) w
def YieldsVR (P : Program) (ops : Array Oper) (R : World → World → Prop) (I : Nat → World → Prop) (C : World → Prop) (mk : Nat → Bool) (Φ : Nat → Value → World → Prop) (vs : Nat → Value) (i : Nat) (o : Oper) (v : Value) (a : Act) : Prop :=
  (mk i = true ∧ Region.wanted o (yielded ops a.tmps) = true ∧ (∀ w f, C w → I (f + 1) w → depsOkR mk Φ vs o w → makesAtR P R (I f) o a w (Φ i)) ∧ v = vs i) ∨
  (mk i = false ∧ Region.wanted o (yielded ops a.tmps) = true ∧ NoEnter P o ∧ ∀ w, C w → o.quietAt P a C w v) ∨
  (mk i = false ∧ Region.wanted o (yielded ops a.tmps) = false ∧ v = undef)
theorem YieldsVR.of_same {i : Nat} {o : Oper} {v : Value} {a a' : Act} (hy : YieldsVR P ops R I C mk Φ vs i o v a) (he : execOp a'.eval o = execOp a.eval o)
    (hw : Region.wanted o (yielded ops a'.tmps) = Region.wanted o (yielded ops a.tmps)) : YieldsVR P ops R I C mk Φ vs i o v a' := by
  unfold YieldsVR Oper.quietAt makesAtR at *
  rw [he, hw]
  exact hy
end

/-- The worlds that stand to this one as the relation says. -/
structure ExtR (R : World → World → Prop) (w : World) where
  to : World
  rel : R w to
section
variable {P : Program} {ops : Array Oper} {R : World → World → Prop} {I : Nat → World → Prop} {mk : Nat → Bool} {Φ : Nat → Value → World → Prop}

end


/-- No run of it enters a function. -/
def NE (s : Sem Next) : Prop := ∀ P w f args w', s.run P w ≠ .ok (.enter f args) w'
theorem NE.halt (x : _) : NE (.halt x) := fun P w f args w' e => by cases e
end Go.Proofs.Ytlcpbdbdiahmjaa

