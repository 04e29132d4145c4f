/- Texts of this seat in one: M8 N2 N3 N4 N5 I1 I2 I3 I4 I5 I6 I7 I0 E3. -/
import Derived.Test.YtlcpbdbdiahmjaaMC
import Derived.Test.YtlcpbdbdiahmjaaMB
import Derived.Laws.BytesArg
import Derived.RangeFuncNested
import Derived.RangeFuncBound
import Derived.RangeFuncCalls
import Derived.RangeFuncLeaves
import Derived.RangeFuncBox
import Derived.Shelf.Abstract
import Derived.Shelf.RegionOpen
import Derived.OwnWalkIn
import Derived.TacticsInMore
import Derived.LoopNIn
import Derived.LoopIn
import Derived.Maps.AppendAt
import Derived.Laws.Tables
import Derived.Laws.CopyOwn

/- Regions that draw their order: makers that lean on makers, whose values need not lead to new blocks. -/
namespace Go.Proofs.Ytlcpbdbdiahmjaa
open Go.RowKit

section
variable {P : Program} {ops : Array Oper} {md : Region.Mode} {C : World → Prop} {mk : Nat → Bool} {Φ : Nat → Value → World → Prop} {vs : Nat → Value}

def nob (_ : Value) : List Nat := []
/-- A block that was made between two worlds. -/
def FreshInE (w w' : World) (u : Value) : Prop := ∀ b, b ∈ nob u → w.heap.size ≤ b ∧ b < w'.heap.size
/-- A maker: from each world of the class it yields some value, in a world that leaves all old memory alone and of which the fact holds. -/
def makesUponE (P : Program) (w : World) (F : Value → World → Prop) : Result Next → Prop
  | .ok (.value u) w' => Below w.heap.size w w' ∧ F u w' ∧ FreshInE w w' u
  | .ok (.enter f args) w' => w' = w ∧ Calls P f args w (fun e w'' => ∃ u, e = .returned u ∧ Below w.heap.size w w'' ∧ F u w'' ∧ FreshInE w w'' u)
  | _ => False
def makesAtE (P : Program) (o : Oper) (a : Act) (w : World) (F : Value → World → Prop) : Prop := makesUponE P w F ((execOp a.eval o).run P w)


/-- The facts of the makers that an operation waits for. -/
def depsOkE (mk : Nat → Bool) (Φ : Nat → Value → World → Prop) (vs : Nat → Value) (o : Oper) (w : World) : Prop := ∀ e ∈ o.after, Region.binds .any e = true → mk e.on = true → Φ e.on (vs e.on) w
def YieldsVE (P : Program) (ops : Array Oper) (C : World → Prop) (mk : Nat → Bool) (Φ : Nat → Value → World → Prop) (vs : Nat → Value) (i : Nat) (o : Oper) (v : Value) (a : Act) : Prop :=
  (mk i = true ∧ Region.wanted o (yielded ops a.tmps) = true ∧ (∀ w, C w → depsOkE mk Φ vs o w → makesAtE P o a w (Φ i)) ∧ v = vs i) ∨
  (mk i = false ∧ Region.wanted o (yielded ops a.tmps) = true ∧ ∀ w, C w → o.quietAt P a C w v) ∨
  (mk i = false ∧ Region.wanted o (yielded ops a.tmps) = false ∧ v = undef)
/-- Operation number i comes up. -/
def vOpE (P : Program) (ops : Array Oper) (C : World → Prop) (mk : Nat → Bool) (Φ : Nat → Value → World → Prop) (vs : Nat → Value) (i : Nat) (K : Act → Prop) (a : Act) : Prop :=
  match ops[i]? with
  | none => K a
  | some o => ∃ v, YieldsVE P ops C mk Φ vs i o v a ∧ K (a.put o.dst v)

theorem vOp_monoE {i : Nat} {a : Act} {K K' : Act → Prop} (h : ∀ a, K a → K' a) (hh : vOpE P ops C mk Φ vs i K a) : vOpE P ops C mk Φ vs i K' a := by
  unfold vOpE at *
  split
  · exact h _ (by simpa [*] using hh)
  · rename_i o ho
    simp only [ho] at hh
    obtain ⟨v, h1, h2⟩ := hh
    exact ⟨v, h1, h _ h2⟩
theorem YieldsVE.vOpE {i : Nat} {o : Oper} {v : Value} {a : Act} (hi : ops[i]? = some o) (hy : YieldsVE P ops C mk Φ vs i o v a) {K : Act → Prop} (h : K (a.put o.dst v)) : vOpE P ops C mk Φ vs i K a := by
  unfold Go.Proofs.Ytlcpbdbdiahmjaa.vOpE
  simp only [hi]
  exact ⟨v, hy, h⟩
theorem yields_of_vOpE {i : Nat} {o : Oper} {a : Act} {K : Act → Prop} (hi : ops[i]? = some o) (h : vOpE P ops C mk Φ vs i K a) : ∃ v, YieldsVE P ops C mk Φ vs i o v a ∧ K (a.put o.dst v) := by
  unfold vOpE at h
  simpa only [hi] using h
theorem YieldsVE.of_same {i : Nat} {o : Oper} {v : Value} {a a' : Act} (hy : YieldsVE P ops C mk Φ vs i o v a) (he : execOp a'.eval o = execOp a.eval o)
    (hw : Region.wanted o (yielded ops a'.tmps) = Region.wanted o (yielded ops a.tmps)) : YieldsVE P ops C mk Φ vs i o v a' := by
  unfold YieldsVE Oper.quietAt makesAtE at *
  rw [he, hw]
  exact hy
theorem vOp_putE {i j : Nat} {oi oj : Oper} {v : Value} (hj : ops[j]? = some oj) (hap : oi.apart ops oj = true)
    (hsi : ∀ cs b, oi.op ≠ .select cs b) (hsj : ∀ cs b, oj.op ≠ .select cs b) {K : Act → Prop} {a : Act}
    (hy : YieldsVE P ops C mk Φ vs i oi v a) (h : vOpE P ops C mk Φ vs j K (a.put oi.dst v)) :
    vOpE P ops C mk Φ vs j (fun a' => YieldsVE P ops C mk Φ vs i oi v a' ∧ K (a'.put oi.dst v)) a := by
  obtain ⟨h1, h2, h3⟩ := Oper.apart_spec hap
  obtain ⟨u, hu, hn⟩ := yields_of_vOpE hj h
  refine YieldsVE.vOpE hj (hu.of_same (execOp_put oj hsj a oi.dst v h1).symm (wanted_put oj a oi.dst v h1).symm) ⟨?_, ?_⟩
  · exact hy.of_same (execOp_put oi hsi a oj.dst u h3) (wanted_put oi a oj.dst u h3)
  · rw [← Act.put_comm a v u h2]; exact hn

/-- The walk in the order of the text. -/
def wpVE (P : Program) (ops : Array Oper) (C : World → Prop) (mk : Nat → Bool) (Φ : Nat → Value → World → Prop) (vs : Nat → Value) (Q : Act → Prop) : Nat → List Oper → Act → Prop
  | _, [], a => Q a
  | k, o :: rest, a => ∃ v, YieldsVE P ops C mk Φ vs k o v a ∧ wpVE P ops C mk Φ vs Q (k + 1) rest (a.put o.dst v)

def wpAnyVE (P : Program) (md : Region.Mode) (ops : Array Oper) (C : World → Prop) (mk : Nat → Bool) (Φ : Nat → Value → World → Prop) (vs : Nat → Value) (n : Nat) (L : Array Bool → Act → Prop) : Nat → Array Bool → Act → Prop
  | 0, listed, a => L listed a
  | f + 1, listed, a =>
    Region.ready md ops listed ≠ [] ∧ ∀ i ∈ Region.ready md ops listed, i < n ∧ vOpE P ops C mk Φ vs i (wpAnyVE P md ops C mk Φ vs n L f (listed.setIfInBounds i true)) a

theorem wpAnyV_firstE {n i : Nat} {oi : Oper} {v : Value} {L : Array Bool → Act → Prop} (hi : ops[i]? = some oi) (hsel : ∀ (j : Nat) (o : Oper) cs b, ops[j]? = some o → o.op ≠ .select cs b)
    (hs : Region.sinkB md ops n = true) (hc : Region.chainB md ops n = true) (hn : n < ops.size) (hin : i < n)
    (hdone : ∀ listed a, L listed a → ∀ j ∈ Region.ready md ops listed, n ≤ j) :
    ∀ (f : Nat) (listed : Array Bool) (a : Act), HeadInv md ops n listed →
      (∀ j oj, ops[j]? = some oj → j ≠ i → listed.getD j true = false → (∀ e ∈ oj.after, Region.binds md e = true → e.on ≠ i) → oi.apart ops oj = true) →
      i ∈ Region.ready md ops listed → YieldsVE P ops C mk Φ vs i oi v a →
      wpAnyVE P md ops C mk Φ vs n L f (listed.setIfInBounds i true) (a.put oi.dst v) → wpAnyVE P md ops C mk Φ vs n L (f + 1) listed a := by
  intro f
  induction f with
  | zero =>
    intro listed a inv _ hr hy H
    have hun := (mem_ready.1 hr).1
    refine ⟨fun h => (by rw [h] at hr; cases hr), fun j hj => ?_⟩
    have hjn : j < n := by
      rcases Nat.lt_or_ge j n with h | h
      · exact h
      · exact absurd hj (tail_waits hs hc hn inv _ i rfl hin hun j h)
    refine ⟨hjn, ?_⟩
    by_cases hji : j = i
    · subst hji; exact hy.vOpE hi H
    · have := hdone _ _ H j (ready_mono hj hji)
      omega
  | succ f ih =>
    intro listed a inv hfree hr hy H
    have hun := (mem_ready.1 hr).1
    refine ⟨fun h => (by rw [h] at hr; cases hr), fun j hj => ?_⟩
    have hjn : j < n := by
      rcases Nat.lt_or_ge j n with h | h
      · exact h
      · exact absurd hj (tail_waits hs hc hn inv _ i rfl hin hun j h)
    refine ⟨hjn, ?_⟩
    by_cases hji : j = i
    · subst hji; exact hy.vOpE hi H
    · have h1 := (H.2 j (ready_mono hj hji)).2
      obtain ⟨hjun, oj, hoj, hall⟩ := mem_ready.1 hj
      have hnot : ∀ e ∈ oj.after, Region.binds md e = true → e.on ≠ i := fun e he hb heq => by
        have h1 := hall e he hb
        rw [heq, getD_both hun] at h1
        cases h1
      have h2 := vOp_putE hoj (hfree j oj hoj hji hjun hnot) (fun cs b => hsel i oi cs b hi) (fun cs b => hsel j oj cs b hoj) hy h1
      have hfree' : ∀ k ok, ops[k]? = some ok → k ≠ i → (listed.setIfInBounds j true).getD k true = false →
          (∀ e ∈ ok.after, Region.binds md e = true → e.on ≠ i) → oi.apart ops ok = true := fun k ok hk hki hun hno => by
        refine hfree k ok hk hki ?_ hno
        by_cases hjk : j = k
        · subst hjk; exact hjun
        · rw [getD_set_ne true hjk] at hun; exact hun
      refine vOp_monoE (fun a' h3 => ih (listed.setIfInBounds j true) a' (inv.set hj hjn) hfree' (ready_mono hr (Ne.symm hji)) h3.1 ?_) h2
      rw [Array.setIfInBounds_comm _ _ hji]
      exact h3.2

theorem wpAnyV_lexE {n g : Nat} {Lq : Act → Prop} (hsel : Region.noSelect ops = true) (hs : Region.sinkB md ops n = true) (hc : Region.chainB md ops n = true) (hn : n < ops.size) :
    ∀ (l : List Oper) (k : Nat) (listed : Array Bool) (a : Act), (∀ j, j < l.length → l[j]? = ops[k + j]?) → k + l.length = n → HeadInv md ops n listed → (∀ j, j < k → listed.getD j false = true) →
    Region.lexHead md ops g l.length k listed = true → wpVE P ops C mk Φ vs Lq k l a →
    wpAnyVE P md ops C mk Φ vs n (fun listed' a' => Region.seqB md ops g n listed' = true ∧ (∀ j, j < n → listed'.getD j false = true) ∧ Lq a') l.length listed a
  | [], k, listed, a, _, hk, _, hall, hB, h => by
    have : k = n := by simpa using hk
    subst this
    exact ⟨by simpa [Region.lexHead] using hB, hall, h⟩
  | o :: l, k, listed, a, hl, hk, inv, hall, hB, h => by
    have h0 : ops[k]? = some o := by simpa using (hl 0 (by simp)).symm
    simp only [List.length_cons, Region.lexHead, Bool.and_eq_true] at hB
    obtain ⟨⟨hr, hf⟩, hB'⟩ := hB
    have hkn : k < n := by simp only [List.length_cons] at hk; omega
    have hr' : k ∈ Region.ready md ops listed := by simpa using hr
    obtain ⟨v, hy, hK⟩ := h
    have hsz : k < listed.size := by rw [inv.size]; omega
    have hall' : ∀ j, j < k + 1 → (listed.setIfInBounds k true).getD j false = true := fun j hj => by
      by_cases e : k = j
      · subst e; simp [hsz]
      · rw [getD_set_ne false e]; exact hall j (by omega)
    exact wpAnyV_firstE h0 (Region.noSelect_spec hsel) hs hc hn hkn (fun listed' a' hL => seqB_ready hL.1) l.length listed a inv (Region.free_spec h0 hf) hr' hy
      (wpAnyV_lexE hsel hs hc hn l (k + 1) _ _ (fun j hj => by have := hl (j + 1) (by simp; omega); simpa [Nat.add_assoc, Nat.add_comm 1 j] using this) (by simp only [List.length_cons] at hk; omega) (inv.set hr' hkn) hall' hB' hK)

theorem wp_of_makesE {o : Oper} {a : Act} {w : World} {F : Value → World → Prop} {K : Act → World → Prop} {Q' : Exit → Act → World → Prop} (hh : makesAtE P o a w F)
    (h : ∀ u w', Below w.heap.size w w' → F u w' → FreshInE w w' u → K (a.put o.dst u) w') : o.wp P a w K Q' := by
  unfold makesAtE at hh
  unfold Oper.wp
  generalize (execOp a.eval o).run P w = r at *
  cases r with
  | ok n w' =>
    cases n <;> simp only [makesUponE] at hh <;> simp only [Oper.upon]
    case value u => exact h _ _ hh.1 hh.2.1 hh.2.2
    case enter f args =>
      obtain ⟨e1, hc⟩ := hh
      rw [e1]
      exact hc.mono fun e w'' ⟨u, he, hb, hF, hfr⟩ => by subst he; exact h _ _ hb hF hfr
  | halt x w' => simp only [makesUponE] at hh
end

section
variable {P : Program} {ops : Array Oper} {mk : Nat → Bool} {Φ : Nat → Value → World → Prop}

/-- The blocks that the makers that have come up lead to: all there, no two the same. -/
def ApartVE (mk : Nat → Bool) (listed : Array Bool) (val : Nat → Value) (w : World) : Prop :=
  (∀ i, mk i = true → listed.getD i false = true → ∀ b, b ∈ nob (val i) → b < w.heap.size) ∧
  (∀ i j, i ≠ j → mk i = true → mk j = true → listed.getD i false = true → listed.getD j false = true → ∀ b, b ∈ nob (val i) → b ∉ nob (val j))
theorem ApartVE.next {listed : Array Bool} {val : Nat → Value} {w w' : World} (h : ApartVE mk listed val w) (hb : Below w.heap.size w w') : ApartVE mk listed val w' :=
  ⟨fun i h1 h2 b h3 => Nat.lt_of_lt_of_le (h.1 i h1 h2 b h3) hb.size, h.2⟩
theorem ApartVE.quiet {listed : Array Bool} {val : Nat → Value} {w : World} {i : Nat} (h : ApartVE mk listed val w) (hi : mk i = false) : ApartVE mk (listed.setIfInBounds i true) val w := by
  have back : ∀ j, mk j = true → (listed.setIfInBounds i true).getD j false = true → listed.getD j false = true := fun j hj hl => by
    rw [getD_set_ne false (fun e => by rw [← e, hi] at hj; cases hj)] at hl; exact hl
  exact ⟨fun j h1 h2 => h.1 j h1 (back j h1 h2), fun j k hne h1 h2 h3 h4 => h.2 j k hne h1 h2 (back j h1 h3) (back k h2 h4)⟩
theorem ApartVE.made {listed : Array Bool} {val : Nat → Value} {w w' : World} {i : Nat} {u : Value} (h : ApartVE mk listed val w) (hb : Below w.heap.size w w') (hf : FreshInE w w' u) :
    ApartVE mk (listed.setIfInBounds i true) (fun j => if j = i then u else val j) w' := by
  have back : ∀ j, j ≠ i → (listed.setIfInBounds i true).getD j false = true → listed.getD j false = true := fun j hj hl => by
    rw [getD_set_ne false (Ne.symm hj)] at hl; exact hl
  refine ⟨fun j h1 h2 b h3 => ?_, fun j k hne h1 h2 h3 h4 b h5 h6 => ?_⟩
  · by_cases e : j = i
    · subst e; simp only [if_true] at h3; exact (hf b h3).2
    · simp only [e, if_false] at h3; exact Nat.lt_of_lt_of_le (h.1 j h1 (back j e h2) b h3) hb.size
  · by_cases e : j = i
    · have e' : k ≠ i := fun e2 => hne (e.trans e2.symm)
      simp only [e, if_true] at h5
      simp only [e', if_false] at h6
      have := h.1 k h2 (back k e' h4) b h6
      have := (hf b h5).1
      omega
    · simp only [e, if_false] at h5
      have l5 := h.1 j h1 (back j e h3) b h5
      by_cases e' : k = i
      · simp only [e', if_true] at h6
        have := (hf b h6).1
        omega
      · simp only [e', if_false] at h6
        exact h.2 j k hne h1 h2 (back j e h3) (back k e' h4) b h5 h6

theorem wpAny_of_VE (hp : Probe P) {n g : Nat} {w0 : World} {L : (Nat → Value) → Array Bool → Act → Prop} {Q' : Exit → Act → World → Prop} {Sh : Nat → Value → Prop} (hΦ : ∀ i v w w', Φ i v w → Below w.heap.size w w' → Φ i v w') (hSh : ∀ i v w, mk i = true → Φ i v w → Sh i v)
    (hL : ∀ listed a w1 (val : Nat → Value), Below w0.heap.size w0 w1 → (∀ i, mk i = true → listed.getD i false = true → Φ i (val i) w1) → ApartVE mk listed val w1 → L val listed a → wpAny P .any ops Q' g listed a w1) :
    ∀ (f : Nat) (listed : Array Bool) (a : Act) (w1 : World) (val : Nat → Value), (∀ i, mk i = true → Sh i (val i)) → Below w0.heap.size w0 w1 → (∀ i, mk i = true → listed.getD i false = true → Φ i (val i) w1) → ApartVE mk listed val w1 →
      (∀ W, Below w0.heap.size w0 W → ∀ vs, (∀ i, mk i = true → Sh i (vs i)) → (∀ i, mk i = true → listed.getD i false = true → vs i = val i) → wpAnyVE P .any ops (extC W) mk Φ vs n (L vs) f listed a) → wpAny P .any ops Q' (f + g) listed a w1
  | 0, listed, a, w1, val, hv, hb, hf, hap, h => by
    rw [Nat.zero_add]
    exact hL _ _ _ _ hb hf hap (h w0 (Below.refl _ _) val hv (fun _ _ _ => rfl))
  | f + 1, listed, a, w1, val, hv, hb, hf, hap, h => by
    rw [show f + 1 + g = (f + g) + 1 by omega]
    have h0 := h w1 hb val hv (fun _ _ _ => rfl)
    refine ⟨fun e => absurd e h0.1, fun i hi => ?_⟩
    have hun := (mem_ready.1 hi).1
    obtain ⟨oi, hoi, hdep⟩ := (mem_ready.1 hi).2
    have hne : ∀ j, listed.getD j false = true → j ≠ i := fun j hj e => by
      subst e
      rw [getD_both hun] at hj
      cases hj
    have hset : ∀ j, j ≠ i → (listed.setIfInBounds i true).getD j false = true → listed.getD j false = true := fun j hj e => by
      rw [getD_set_ne false (Ne.symm hj)] at e; exact e
    obtain ⟨v1, hy1, _⟩ := yields_of_vOpE hoi (h0.2 i hi).2
    unfold wpOp
    simp only [hoi]
    rcases hy1 with ⟨hmk, hw, hm, _⟩ | ⟨hmk, hw, hq⟩ | ⟨hmk, hw, rfl⟩
    · rw [if_pos hw]
      refine .inl (wp_of_makesE (hm w1 (extC_of (Below.refl _ _)) (fun e he hbd hk => hf e.on hk (hdep e he hbd))) fun u w2 hb2 hu hfr => ?_)
      refine wpAny_of_VE (n := n) hp hΦ hSh hL f _ _ w2 (fun j => if j = i then u else val j) (fun j hj => (by
        by_cases e : j = i
        · subst e; simp only [if_true]; exact hSh _ _ _ hj hu
        · simp only [e, if_false]; exact hv j hj)) (hb.trans (hb2.mono hb.size)) (fun j hj hl => ?_) (hap.made hb2 hfr) (fun W hW vs hvs hag => ?_)
      · by_cases e : j = i
        · subst e; simp only [if_true]; exact hu
        · simp only [e, if_false]; exact hΦ _ _ _ _ (hf j hj (hset j e hl)) hb2
      · have h1 := h W hW vs hvs (fun j hj hl => by
          have hji := hne j hl
          have := hag j hj (by rw [getD_set_ne false (Ne.symm hji)]; exact hl)
          simpa [hji] using this)
        obtain ⟨v2, hy2, hK⟩ := yields_of_vOpE hoi (h1.2 i hi).2
        have hv2 : v2 = vs i := by
          rcases hy2 with ⟨_, _, _, e⟩ | ⟨e, _⟩ | ⟨e, _⟩
          · exact e
          · rw [hmk] at e; cases e
          · rw [hmk] at e; cases e
        have hvi : vs i = u := by
          have := hag i hmk (by
            have hsz : i < listed.size := by
              rcases Nat.lt_or_ge i listed.size with h' | h'
              · exact h'
              · simp [Array.getElem?_eq_none h'] at hun
            simp [hsz])
          simpa using this
        rw [hv2, hvi] at hK
        exact hK
    · rw [if_pos hw]
      refine .inl (wp_of_quietE (hq w1 (extC_of (Below.refl _ _))) fun w2 hb2 => ?_)
      refine wpAny_of_VE (n := n) hp hΦ hSh hL f _ _ w2 val hv (hb.trans (hb2.mono hb.size)) (fun j hj hl => ?_) ((hap.next hb2).quiet hmk) (fun W hW vs hvs hag => ?_)
      · have hji : j ≠ i := fun e => by rw [e, hmk] at hj; cases hj
        exact hΦ _ _ _ _ (hf j hj (hset j hji hl)) hb2
      · have hag' : ∀ j, mk j = true → listed.getD j false = true → vs j = val j := fun j hj hl => hag j hj (by
          rw [getD_set_ne false (Ne.symm (hne j hl))]; exact hl)
        obtain ⟨v2, hy2, hK⟩ := yields_of_vOpE hoi ((h W hW vs hvs hag').2 i hi).2
        obtain ⟨v0, hy0, _⟩ := yields_of_vOpE hoi ((h w0 (Below.refl _ _) vs hvs hag').2 i hi).2
        have q0 : ∀ w, extC w0 w → oi.quietAt P a (extC w0) w v0 := by
          rcases hy0 with ⟨e, _⟩ | ⟨_, _, e⟩ | ⟨_, e, _⟩
          · rw [hmk] at e; cases e
          · exact e
          · rw [hw] at e; cases e
        have q2 : ∀ w, extC W w → oi.quietAt P a (extC W) w v2 := by
          rcases hy2 with ⟨e, _⟩ | ⟨_, _, e⟩ | ⟨_, e, _⟩
          · rw [hmk] at e; cases e
          · exact e
          · rw [hw] at e; cases e
        have e1 : v0 = v1 := quiet_det hp (q0 w1 (extC_of hb)) (hq w1 (extC_of (Below.refl _ _)))
        have e2 : v0 = v2 := quiet_det hp (q0 W (extC_of hW)) (q2 W (extC_of (Below.refl _ _)))
        rw [← e2, e1] at hK
        exact hK
    · rw [if_neg (by rw [hw]; simp)]
      refine wpAny_of_VE (n := n) hp hΦ hSh hL f _ _ w1 val hv hb (fun j hj hl => ?_) (hap.quiet hmk) (fun W hW vs hvs hag => ?_)
      · have hji : j ≠ i := fun e => by rw [e, hmk] at hj; cases hj
        exact hf j hj (hset j hji hl)
      · have hag' : ∀ j, mk j = true → listed.getD j false = true → vs j = val j := fun j hj hl => hag j hj (by
          rw [getD_set_ne false (Ne.symm (hne j hl))]; exact hl)
        obtain ⟨v2, hy2, hK⟩ := yields_of_vOpE hoi ((h W hW vs hvs hag').2 i hi).2
        have e2 : v2 = undef := by
          rcases hy2 with ⟨e, _⟩ | ⟨_, e, _⟩ | ⟨_, _, e⟩
          · rw [hmk] at e; cases e
          · rw [hw] at e; cases e
          · exact e
        rw [e2] at hK
        exact hK

/-- Whatever order comes up in a region of quiet operations and makers ahead of a tail in forced order. -/
theorem wpAny_makersE {Q : Exit → Act → World → Prop} {a : Act} {w : World} {l : List Oper} (n : Nat) (mk : Nat → Bool) (Φ : Nat → Value → World → Prop) (Sh : Nat → Value → Prop) (vs0 : Nat → Value) (hp : Probe P) (hB : Region.lexTailB .any l.toArray n = true)
    (hΦ : ∀ i v w w', Φ i v w → Below w.heap.size w w' → Φ i v w') (hSh : ∀ i v w, mk i = true → Φ i v w → Sh i v) (hv0 : ∀ i, mk i = true → Sh i (vs0 i))
    (h : ∀ W, Below w.heap.size w W → ∀ vs, (∀ i, mk i = true → Sh i (vs i)) → wpVE P l.toArray (extC W) mk Φ vs (fun a' => ∀ w1, Below w.heap.size w w1 → (∀ i, i < n → mk i = true → Φ i (vs i) w1) → (∀ i j, i < n → j < n → i ≠ j → mk i = true → mk j = true → ∀ b, b ∈ nob (vs i) → b ∉ nob (vs j)) → wpList P l.toArray Q (l.drop n) a' w1) 0 (l.take n) a) :
    wpAny P .any l.toArray Q l.toArray.size (Array.replicate l.toArray.size false) a w.drew := by
  simp only [Region.lexTailB, Bool.and_eq_true, decide_eq_true_eq] at hB
  obtain ⟨⟨⟨⟨hsel, hn⟩, hs⟩, hc⟩, hlex⟩ := hB
  have hn' : n < l.length := by simpa using hn
  have htl : (l.take n).length = n := by simp; omega
  have hdl : (l.drop n).length = l.toArray.size - n := by simp
  have inv0 : HeadInv .any l.toArray n (Array.replicate l.toArray.size false) :=
    ⟨by simp, fun j oj _ hl => (by rw [getD_replicate_false] at hl; cases hl), fun t _ ht => getD_in (by simpa using ht) (getD_replicate_false _ _)⟩
  have bw : Below w.heap.size w w.drew := (Below.refl _ _).drew
  have H := fun W (hW : Below w.heap.size w W) vs hvs => wpAnyV_lexE (md := .any) (C := extC W) (mk := mk) (Φ := Φ) (vs := vs) (g := l.toArray.size - n) hsel hs hc hn (l.take n) 0 _ a (fun j hj => by
    have hj' : j < n := by rw [htl] at hj; exact hj
    simp [hj']) (by simpa using htl) inv0 (fun j hj => absurd hj (by omega)) (by rw [htl]; exact hlex) (h W hW vs hvs)
  have := wpAny_of_VE (Q' := Q) (w0 := w) (n := n) (g := l.toArray.size - n) (L := fun vs listed' a' => Region.seqB .any l.toArray (l.toArray.size - n) n listed' = true ∧ (∀ j, j < n → listed'.getD j false = true) ∧
      ∀ w1, Below w.heap.size w w1 → (∀ i, i < n → mk i = true → Φ i (vs i) w1) → (∀ i j, i < n → j < n → i ≠ j → mk i = true → mk j = true → ∀ b, b ∈ nob (vs i) → b ∉ nob (vs j)) → wpList P l.toArray Q (l.drop n) a' w1) hp hΦ hSh
    (fun listed a' w1 val hb hf hap hL' => by
      have := wpAny_of_seq (md := .any) (Q' := Q) (l.drop n) n listed a' w1 (fun j => by simp [List.getElem?_drop]) (by rw [hdl]; exact hL'.1) (hL'.2.2 w1 hb (fun i hi hmk => hf i hmk (hL'.2.1 i hi)) (fun i j hi hj hne h1 h2 => hap.2 i j hne h1 h2 (hL'.2.1 i hi) (hL'.2.1 j hj)))
      rwa [hdl] at this)
    (l.take n).length (Array.replicate l.toArray.size false) a w.drew vs0 hv0 bw (fun i _ hl => by rw [getD_replicate_false] at hl; cases hl) ⟨fun i _ hl => (by rw [getD_replicate_false] at hl; cases hl), fun i j _ _ _ hl => (by rw [getD_replicate_false] at hl; cases hl)⟩ (fun W hW vs hvs _ => H W hW vs hvs)
  rw [htl, show n + (l.toArray.size - n) = l.toArray.size by omega] at this
  exact this

/-- A region of quiet operations and makers ahead of a tail in forced order. -/
theorem wp_region_makersE {id : Nat} {Q : Exit → Act → World → Prop} {a : Act} {w : World} {l : List Oper} (n : Nat) (mk : Nat → Bool) (Φ : Nat → Value → World → Prop) (Sh : Nat → Value → Prop) (vs0 : Nat → Value) (hp : Probe P) (hm : P.follows .mixedOrders = true) (hB : Region.lexTailB .any l.toArray n = true)
    (hΦ : ∀ i v w w', Φ i v w → Below w.heap.size w w' → Φ i v w') (hSh : ∀ i v w, mk i = true → Φ i v w → Sh i v) (hv0 : ∀ i, mk i = true → Sh i (vs0 i))
    (h : ∀ W, Below w.heap.size w W → ∀ vs, (∀ i, mk i = true → Sh i (vs i)) → wpVE P l.toArray (extC W) mk Φ vs (fun a' => ∀ w1, Below w.heap.size w w1 → (∀ i, i < n → mk i = true → Φ i (vs i) w1) → (∀ i j, i < n → j < n → i ≠ j → mk i = true → mk j = true → ∀ b, b ∈ nob (vs i) → b ∉ nob (vs j)) → wpList P l.toArray Q (l.drop n) a' w1) 0 (l.take n) a) :
    (Code.region id l.toArray true).wp P Q a w := wp_region_any hm (wpAny_makersE n mk Φ Sh vs0 hp hB hΦ hSh hv0 h)

/-- A stretch of quiet operations. -/
theorem wpV_quietE {C : World → Prop} {vs : Nat → Value} {Q : Act → Prop} (hC : ∃ w, C w) : ∀ (m k : Nat) (l : List Oper) (a : Act), (∀ j, j < m → mk (k + j) = false) → m ≤ l.length →
    wpQuiet P ops C (fun a' => wpVE P ops C mk Φ vs Q (k + m) (l.drop m) a') (l.take m) a → wpVE P ops C mk Φ vs Q k l a
  | 0, k, l, a, _, _, h => by simpa [wpQuiet] using h
  | m + 1, k, [], a, _, hl, _ => by simp at hl
  | m + 1, k, o :: rest, a, hk, hl, h => by
    simp only [List.take_succ_cons, List.drop_succ_cons] at h
    have hk' : ∀ j, j < m → mk (k + 1 + j) = false := fun j h1 => by rw [show k + 1 + j = k + (j + 1) by omega]; exact hk (j + 1) (by omega)
    have hl' : m ≤ rest.length := by simpa using hl
    have go : ∀ a', wpQuiet P ops C (fun a' => wpVE P ops C mk Φ vs Q (k + (m + 1)) (rest.drop m) a') (rest.take m) a' → wpVE P ops C mk Φ vs Q (k + 1) rest a' := fun a' h' =>
      wpV_quietE hC m (k + 1) rest a' hk' hl' (by rw [show k + 1 + m = k + (m + 1) by omega]; exact h')
    unfold wpQuiet at h
    unfold wpVE
    by_cases hw : Region.wanted o (yielded ops a.tmps) = true
    · rw [if_pos hw] at h
      obtain ⟨v, h1, h2⟩ := h
      exact ⟨v, .inr (.inl ⟨hk 0 (by omega), hw, h1⟩), go _ h2⟩
    · rw [if_neg hw] at h
      exact ⟨undef, .inr (.inr ⟨hk 0 (by omega), by simpa using hw, rfl⟩), go _ h⟩
/-- A maker. -/
theorem wpV_makeE {C : World → Prop} {vs : Nat → Value} {Q : Act → Prop} {k : Nat} {o : Oper} {rest : List Oper} {a : Act} (hk : mk k = true) (hw : Region.wanted o (yielded ops a.tmps) = true)
    (hm : ∀ w, C w → depsOkE mk Φ vs o w → makesAtE P o a w (Φ k)) (h : wpVE P ops C mk Φ vs Q (k + 1) rest (a.put o.dst (vs k))) : wpVE P ops C mk Φ vs Q k (o :: rest) a :=
  ⟨vs k, .inl ⟨hk, hw, hm, rfl⟩, h⟩
theorem wpV_make_E {C : World → Prop} {vs : Nat → Value} {Q : Act → Prop} {k : Nat} {o : Oper} {rest : List Oper} {a : Act} (hk : mk k = true) (hw : o.guard = none)
    (hm : ∀ w, C w → depsOkE mk Φ vs o w → makesAtE P o a w (Φ k)) (h : wpVE P ops C mk Φ vs Q (k + 1) rest (a.put o.dst (vs k))) : wpVE P ops C mk Φ vs Q k (o :: rest) a := wpV_makeE hk (by simp [Region.wanted, hw]) hm h
theorem wpV_nilE {C : World → Prop} {vs : Nat → Value} {Q : Act → Prop} {k : Nat} {a : Act} (h : Q a) : wpVE P ops C mk Φ vs Q k [] a := h
end

end Go.Proofs.Ytlcpbdbdiahmjaa



/- Kinds of elements: inverses, zero divisors, nilpotents, idempotents, by both sides. -/
namespace Go.Proofs.Ytlcpbdbdiahmjaa
open Go.RowKit
set_option maxRecDepth 100000

set_option maxHeartbeats 1000000 in
theorem inverse_any (a : Nat) (m e b1 o1 la ca b2 o2 lb cb : Nat) (S P : Nat → Nat) (w : World) (hr : RingAt w m e b1 o1 la ca b2 o2 lb cb S P) (ha : a < m) :
    Calls Try.prog 109 #[.agg #[.int .i64 m, .int .i64 e, .slice (some ⟨b1, o1, none⟩) la ca, .slice (some ⟨b2, o2, none⟩) lb cb], .int .i64 a] w fun e' w' => e' = .returned (.int .i64 (invN m P e a)) ∧ Below w.heap.size w w' := by
  obtain ⟨c0, c1, c2, c3, hs⟩ := box4_new w (.int .i64 m) (.int .i64 e) (.slice (some ⟨b1, o1, none⟩) la ca) (.slice (some ⟨b2, o2, none⟩) lb cb) 25
  have b0 : Below w.heap.size w (w.alloc (.cells #[.int .i64 m, .int .i64 e, .slice (some ⟨b1, o1, none⟩) la ca, .slice (some ⟨b2, o2, none⟩) lb cb] 25)) := (Below.refl _ _).alloc (Nat.le_refl _) _
  obtain ⟨W, hW⟩ : ∃ W, w.alloc (.cells #[.int .i64 m, .int .i64 e, .slice (some ⟨b1, o1, none⟩) la ca, .slice (some ⟨b2, o2, none⟩) lb cb] 25) = W := ⟨_, rfl⟩
  rw [hW] at c0 c1 c2 c3 hs b0
  have R0 := Lib.hid (hr.next b0)
  have B0 := Lib.hid b0
  have HW := Lib.hid hW
  have HL := Lib.hid hr.hlb
  have hm := hr.hm
  have hm' := hr.hm'
  have hcb := hr.hcb
  clear hr b0 hW
  go_enter Try.func109, Try.ntmps109
  go_wp2_with (fail)
  rw [HW.out]
  refine wp_region_ext (by kernel_rfl) (by kernel_rfl) ?_
  repeat (go_big_quiet_step ((first
    | (go_at_call 108; with_reducible refine calls_ext (row_any m _ _ _ _ _ _ _ b2 o2 lb cb a _ hm hm' ha HL.out hcb))
    | (go_at_call 120; with_reducible refine calls_ext ((index_any _ _ _ (rowL m P a) _ _ _ ((R0.out.ext _).tp.row ha) (by omega)).mono fun e1 w1 h => ⟨h.1, h.2 ▸ Below.refl _ _⟩)))))
  refine wpQuiet_nil ?_
  intro w2 hb2
  go_wp2
  go_ret
  exact ⟨rfl, B0.out.trans (hb2.mono (by omega))⟩

end Go.Proofs.Ytlcpbdbdiahmjaa



/- Kinds of elements of the reading side: l3Inverse, l3Divides, l3Is. -/
namespace Go.Proofs.Ytlcpbdbdiahmjaa
open Go.RowKit
set_option maxRecDepth 100000

set_option maxHeartbeats 1000000 in
theorem l3Inverse_any (a : Nat) (m e b1 o1 la ca b2 o2 lb cb : Nat) (S P : Nat → Nat) (w : World) (hr : RingAt w m e b1 o1 la ca b2 o2 lb cb S P) (ha : a < m) :
    Calls Try.prog 50 #[.agg #[.int .i64 m, .int .i64 e, .slice (some ⟨b1, o1, none⟩) la ca, .slice (some ⟨b2, o2, none⟩) lb cb], .int .i64 a] w fun e' w' => e' = .returned (.int .i64 (invN m P e a)) ∧ Below w.heap.size w w' := by
  have hm := hr.hm
  have hm' := hr.hm'
  have HR := Lib.hid hr
  clear hr
  go_enter Try.func50, Try.ntmps50
  go_wp2
  go_loopg [8] m (fun g i wr => ∃ k : Nat, k ≤ m ∧ m ≤ k + g ∧ i = .int .i64 k ∧ Misses (rowL m P a) e k ∧ Below (w.heap.size + 1) (w.alloc (.cells #[.int .i64 m, .int .i64 e, .slice (some ⟨b1, o1, none⟩) la ca, .slice (some ⟨b2, o2, none⟩) lb cb] 25)) wr)
  case atStart => exact ⟨0, Nat.zero_le _, by omega, rfl, fun j hj => absurd hj (by omega), Below.refl _ _⟩
  case round =>
    obtain ⟨k, hk, hg, rfl, hup, hb⟩ := hrel
    have HU := Lib.hid hup
    obtain ⟨d0, d1, d2, d3, hs1⟩ := box4 hb
    have X1 := Lib.hid hb
    have R1 := Lib.hid (HR.out.next (below_of_box hb))
    clear hup hb
    by_cases hlt : k < m
    · by_cases h0 : P (a * m + k) = e
      · have H0 := Lib.hid h0
        have t0 : (((P (a * m + k) : Nat) : Int) == (e : Int)) = true := by rw [beq_iff_eq]; omega
        clear h0
        go_wp2
        refine wp_region_ext (by kernel_rfl) (by kernel_rfl) ?_
        repeat (go_big_quiet_step (((go_at_call 51; ((with_reducible refine calls_ext (l1Mul_any a k m e b1 o1 la ca b2 o2 lb cb S P _ (R1.out.ext _) ha hlt)))))))
        refine wpQuiet_nil ?_
        intro w2 hb2
        have X2 := Lib.hid (X1.out.trans (hb2.mono (by omega)))
        clear hb2
        go_wp2
        go_ret
        refine ⟨ret_int ?_, below_of_box X2.out⟩
        unfold invN
        exact (idx_hit (by rw [rowL_length]; exact hlt) (by rw [rowL_get hlt, H0.out]) HU.out).symm
      · have H0 := Lib.hid h0
        have t0 : (((P (a * m + k) : Nat) : Int) == (e : Int)) = false := by rw [beq_eq_false_iff_ne]; omega
        clear h0
        go_wp2
        refine wp_region_ext (by kernel_rfl) (by kernel_rfl) ?_
        repeat (go_big_quiet_step (((go_at_call 51; ((with_reducible refine calls_ext (l1Mul_any a k m e b1 o1 la ca b2 o2 lb cb S P _ (R1.out.ext _) ha hlt)))))))
        refine wpQuiet_nil ?_
        intro w2 hb2
        have X2 := Lib.hid (X1.out.trans (hb2.mono (by omega)))
        clear hb2
        go_wp2
        go_roundg (m - (k + 1))
        case measure => omega
        case rel => exact ⟨k + 1, by omega, by omega, by go_num, forall_succ HU.out (by rw [rowL_get hlt]; exact fun h => H0.out (by omega)), X2.out⟩
    · go_wp2
      go_ret
      refine ⟨ret_int ?_, below_of_box X1.out⟩
      unfold invN
      exact (idx_miss fun j hj => HU.out j (by rw [rowL_length] at hj; omega)).symm

end Go.Proofs.Ytlcpbdbdiahmjaa



/- InverseOf, SumOrderOf and UnitOrderOf, of both sides. -/
namespace Go.Proofs.Ytlcpbdbdiahmjaa
open Go.RowKit
set_option maxRecDepth 100000

end Go.Proofs.Ytlcpbdbdiahmjaa



/- KindsOf of both sides. -/
namespace Go.Proofs.Ytlcpbdbdiahmjaa
open Go.RowKit
set_option maxRecDepth 100000

theorem own_nextK {w w' : World} {base : Nat} {e : TypeId} {size : Nat} {v : Value} {n : Nat} {xs : List Value} (h : w.ownsRow base e size v n xs) (hb : Below w.heap.size w w') : w'.ownsRow base e size v n xs :=
  h.kept (Go.Proofs.Ytlcpbdbdiahmjaa.Below.grown_ hb) (by
    rcases h.2 with ⟨rfl, _⟩ | ⟨g, cap, cur, rfl, _⟩
    · exact .inl rfl
    · exact .inr (by simp [Value.ownBlock]))

/-- The letters of the kinds, up to a kind. -/
def letterB (k : Nat) : UInt8 := #[117, 100, 110, 105].getD k 0
theorem letter_at (k : Nat) (h : k < 4) : ({ data := #[117, 100, 110, 105] } : ByteArray)[k]'h = letterB k := by
  have g : ∀ t : Fin 4, (#[117, 100, 110, 105] : Array UInt8)[t.val]'t.isLt = letterB t.val := by decide
  exact g ⟨k, h⟩

attribute [local go_sem] letter_at

end Go.Proofs.Ytlcpbdbdiahmjaa



/- An iterator over the elements that pass a test: the closure of where. -/
namespace Go.Proofs.Ytlcpbdbdiahmjaa
open Go.RowKit Go.Shelf
set_option maxRecDepth 100000
attribute [local go_sem] Oper.semAt_some

section
variable {m k : Nat} {p : Nat → Bool}
end

end Go.Proofs.Ytlcpbdbdiahmjaa



/- Lists that are collected from an iterator: where, AppendSeq, Collect. -/
namespace Go.Proofs.Ytlcpbdbdiahmjaa
open Go.RowKit Go.Shelf
set_option maxRecDepth 100000
attribute [local go_sem] Oper.semAt_some

end Go.Proofs.Ytlcpbdbdiahmjaa



/- The elements of a kind, as the program lists them. -/
namespace Go.Proofs.Ytlcpbdbdiahmjaa
open Go.RowKit Go.Shelf
set_option maxRecDepth 100000

end Go.Proofs.Ytlcpbdbdiahmjaa



/- The lists of the elements of a kind, of both sides. -/
namespace Go.Proofs.Ytlcpbdbdiahmjaa
open Go.RowKit Go.Shelf
set_option maxRecDepth 100000

end Go.Proofs.Ytlcpbdbdiahmjaa



/- The lists of the elements of a kind, as the reading side makes them. -/
namespace Go.Proofs.Ytlcpbdbdiahmjaa
open Go.RowKit
set_option maxRecDepth 100000

theorem own_lit_K {w : World} {base : Nat} {e : TypeId} (l : List Value) (hb : base ≤ w.heap.size) (hl : l.length ≤ maxLen) :
    (w.alloc (.cells l.toArray e)).ownsRow base e 1 (.slice (some ⟨w.heap.size, 0, none⟩) l.length l.length) l.length l :=
  ⟨by simp, .inr ⟨w.heap.size, l.length, l.toArray, rfl, hb, heap_alloc_new w _, Nat.le_refl _, hl, by simp, by simp⟩⟩

end Go.Proofs.Ytlcpbdbdiahmjaa



/- Sets of elements: setOf, and the equality of sets. -/
namespace Go.Proofs.Ytlcpbdbdiahmjaa
open Go.RowKit Go.Shelf
set_option maxRecDepth 100000
attribute [local go_sem] Oper.semAt_some

section
variable {n : Nat} {P : Program} {ops : Array Oper} {rest : List Oper} {o : Oper} {a : Act} {w : World} {Q : Exit → Act → World → Prop}
end

end Go.Proofs.Ytlcpbdbdiahmjaa



/- IsField: the plain facts; sets that are compared; the program's set.has and its test of what is not 0. -/
namespace Go.Proofs.Ytlcpbdbdiahmjaa
open Go.RowKit Go.Shelf
set_option maxRecDepth 100000

section
variable {m e : Nat} {S P : Nat → Nat}
end

section
variable {m : Nat} {p q : Nat → Bool}
end
end Go.Proofs.Ytlcpbdbdiahmjaa



/- Sets and lists of elements, what both sides share: whatever comes in. -/
namespace Go.Proofs.Ytlcpbdbdiahmjaa
open Go.RowKit Go.Shelf
set_option maxRecDepth 100000
attribute [local go_sem] Oper.semAt_some

end Go.Proofs.Ytlcpbdbdiahmjaa



/- Plain facts: inverses, orders of units, and that they divide the number of units. No program in sight. -/
namespace Go.Proofs.Ytlcpbdbdiahmjaa
open Go.RowKit

section
variable {m e : Nat} {S P : Nat → Nat}
theorem inv_data {a : Nat} (h : 0 ≤ invN m P e a) : ∃ c, c < m ∧ invN m P e a = c ∧ P (a * m + c) = e := by
  obtain ⟨c, hc⟩ := Int.eq_ofNat_of_zero_le h
  obtain ⟨h1, h2⟩ := idx_data hc
  rw [rowL_length] at h1
  rw [rowL_get h1] at h2
  exact ⟨c, h1, hc, by omega⟩
end

end Go.Proofs.Ytlcpbdbdiahmjaa

