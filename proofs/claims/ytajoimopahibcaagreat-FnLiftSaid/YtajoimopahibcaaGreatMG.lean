/- Texts of this seat in one: M8 N2 N3 N4 N5 I1 I2 I3 I4 I5 I6 I7 I0 I8 I9 E3 E4. -/
import Derived.Test.YtajoimopahibcaaGreatMC
import Derived.Test.YtajoimopahibcaaGreatMB
import Derived.Laws.BytesArg
import Derived.RangeFuncNested
import Derived.RangeFuncBound
import Derived.RangeFuncCalls
import Derived.RangeFuncLeaves
import Derived.RangeFuncBox
import Derived.Shelf.Abstract
import Derived.Shelf.RegionOpen
import Derived.OwnWalkIn
import Derived.TacticsInMore
import Derived.LoopNIn
import Derived.LoopIn
import Derived.Maps.AppendAt
import Derived.Laws.Tables
import Derived.Laws.CopyOwn

/- Regions that draw their order: makers that lean on makers, whose values need not lead to new blocks. -/
namespace Go.Proofs.YtajoimopahibcaaGreat
open Go.RowKit

section
variable {P : Program} {ops : Array Oper} {md : Region.Mode} {C : World → Prop} {mk : Nat → Bool} {Φ : Nat → Value → World → Prop} {vs : Nat → Value}

def nob (_ : Value) : List Nat := []
/-- A block that was made between two worlds. -/
def FreshInE (w w' : World) (u : Value) : Prop := ∀ b, b ∈ nob u → w.heap.size ≤ b ∧ b < w'.heap.size
/-- A maker: from each world of the class it yields some value, in a world that leaves all old memory alone and of which the fact holds. -/
def makesUponE (P : Program) (w : World) (F : Value → World → Prop) : Result Next → Prop
  | .ok (.value u) w' => Below w.heap.size w w' ∧ F u w' ∧ FreshInE w w' u
  | .ok (.enter f args) w' => w' = w ∧ Calls P f args w (fun e w'' => ∃ u, e = .returned u ∧ Below w.heap.size w w'' ∧ F u w'' ∧ FreshInE w w'' u)
  | _ => False
def makesAtE (P : Program) (o : Oper) (a : Act) (w : World) (F : Value → World → Prop) : Prop := makesUponE P w F ((execOp a.eval o).run P w)


/-- The facts of the makers that an operation waits for. -/
def depsOkE (mk : Nat → Bool) (Φ : Nat → Value → World → Prop) (vs : Nat → Value) (o : Oper) (w : World) : Prop := ∀ e ∈ o.after, Region.binds .any e = true → mk e.on = true → Φ e.on (vs e.on) w
def YieldsVE (P : Program) (ops : Array Oper) (C : World → Prop) (mk : Nat → Bool) (Φ : Nat → Value → World → Prop) (vs : Nat → Value) (i : Nat) (o : Oper) (v : Value) (a : Act) : Prop :=
  (mk i = true ∧ Region.wanted o (yielded ops a.tmps) = true ∧ (∀ w, C w → depsOkE mk Φ vs o w → makesAtE P o a w (Φ i)) ∧ v = vs i) ∨
  (mk i = false ∧ Region.wanted o (yielded ops a.tmps) = true ∧ ∀ w, C w → o.quietAt P a C w v) ∨
  (mk i = false ∧ Region.wanted o (yielded ops a.tmps) = false ∧ v = undef)
/-- Operation number i comes up. -/
def vOpE (P : Program) (ops : Array Oper) (C : World → Prop) (mk : Nat → Bool) (Φ : Nat → Value → World → Prop) (vs : Nat → Value) (i : Nat) (K : Act → Prop) (a : Act) : Prop :=
  match ops[i]? with
  | none => K a
  | some o => ∃ v, YieldsVE P ops C mk Φ vs i o v a ∧ K (a.put o.dst v)

theorem vOp_monoE {i : Nat} {a : Act} {K K' : Act → Prop} (h : ∀ a, K a → K' a) (hh : vOpE P ops C mk Φ vs i K a) : vOpE P ops C mk Φ vs i K' a := by
  unfold vOpE at *
  split
  · exact h _ (by simpa [*] using hh)
  · rename_i o ho
    simp only [ho] at hh
    obtain ⟨v, h1, h2⟩ := hh
    exact ⟨v, h1, h _ h2⟩
theorem YieldsVE.vOpE {i : Nat} {o : Oper} {v : Value} {a : Act} (hi : ops[i]? = some o) (hy : YieldsVE P ops C mk Φ vs i o v a) {K : Act → Prop} (h : K (a.put o.dst v)) : vOpE P ops C mk Φ vs i K a := by
  unfold Go.Proofs.YtajoimopahibcaaGreat.vOpE
  simp only [hi]
  exact ⟨v, hy, h⟩
theorem yields_of_vOpE {i : Nat} {o : Oper} {a : Act} {K : Act → Prop} (hi : ops[i]? = some o) (h : vOpE P ops C mk Φ vs i K a) : ∃ v, YieldsVE P ops C mk Φ vs i o v a ∧ K (a.put o.dst v) := by
  unfold vOpE at h
  simpa only [hi] using h
theorem YieldsVE.of_same {i : Nat} {o : Oper} {v : Value} {a a' : Act} (hy : YieldsVE P ops C mk Φ vs i o v a) (he : execOp a'.eval o = execOp a.eval o)
    (hw : Region.wanted o (yielded ops a'.tmps) = Region.wanted o (yielded ops a.tmps)) : YieldsVE P ops C mk Φ vs i o v a' := by
  unfold YieldsVE Oper.quietAt makesAtE at *
  rw [he, hw]
  exact hy
theorem vOp_putE {i j : Nat} {oi oj : Oper} {v : Value} (hj : ops[j]? = some oj) (hap : oi.apart ops oj = true)
    (hsi : ∀ cs b, oi.op ≠ .select cs b) (hsj : ∀ cs b, oj.op ≠ .select cs b) {K : Act → Prop} {a : Act}
    (hy : YieldsVE P ops C mk Φ vs i oi v a) (h : vOpE P ops C mk Φ vs j K (a.put oi.dst v)) :
    vOpE P ops C mk Φ vs j (fun a' => YieldsVE P ops C mk Φ vs i oi v a' ∧ K (a'.put oi.dst v)) a := by
  obtain ⟨h1, h2, h3⟩ := Oper.apart_spec hap
  obtain ⟨u, hu, hn⟩ := yields_of_vOpE hj h
  refine YieldsVE.vOpE hj (hu.of_same (execOp_put oj hsj a oi.dst v h1).symm (wanted_put oj a oi.dst v h1).symm) ⟨?_, ?_⟩
  · exact hy.of_same (execOp_put oi hsi a oj.dst u h3) (wanted_put oi a oj.dst u h3)
  · rw [← Act.put_comm a v u h2]; exact hn

/-- The walk in the order of the text. -/
def wpVE (P : Program) (ops : Array Oper) (C : World → Prop) (mk : Nat → Bool) (Φ : Nat → Value → World → Prop) (vs : Nat → Value) (Q : Act → Prop) : Nat → List Oper → Act → Prop
  | _, [], a => Q a
  | k, o :: rest, a => ∃ v, YieldsVE P ops C mk Φ vs k o v a ∧ wpVE P ops C mk Φ vs Q (k + 1) rest (a.put o.dst v)

def wpAnyVE (P : Program) (md : Region.Mode) (ops : Array Oper) (C : World → Prop) (mk : Nat → Bool) (Φ : Nat → Value → World → Prop) (vs : Nat → Value) (n : Nat) (L : Array Bool → Act → Prop) : Nat → Array Bool → Act → Prop
  | 0, listed, a => L listed a
  | f + 1, listed, a =>
    Region.ready md ops listed ≠ [] ∧ ∀ i ∈ Region.ready md ops listed, i < n ∧ vOpE P ops C mk Φ vs i (wpAnyVE P md ops C mk Φ vs n L f (listed.setIfInBounds i true)) a

theorem wpAnyV_firstE {n i : Nat} {oi : Oper} {v : Value} {L : Array Bool → Act → Prop} (hi : ops[i]? = some oi) (hsel : ∀ (j : Nat) (o : Oper) cs b, ops[j]? = some o → o.op ≠ .select cs b)
    (hs : Region.sinkB md ops n = true) (hc : Region.chainB md ops n = true) (hn : n < ops.size) (hin : i < n)
    (hdone : ∀ listed a, L listed a → ∀ j ∈ Region.ready md ops listed, n ≤ j) :
    ∀ (f : Nat) (listed : Array Bool) (a : Act), HeadInv md ops n listed →
      (∀ j oj, ops[j]? = some oj → j ≠ i → listed.getD j true = false → (∀ e ∈ oj.after, Region.binds md e = true → e.on ≠ i) → oi.apart ops oj = true) →
      i ∈ Region.ready md ops listed → YieldsVE P ops C mk Φ vs i oi v a →
      wpAnyVE P md ops C mk Φ vs n L f (listed.setIfInBounds i true) (a.put oi.dst v) → wpAnyVE P md ops C mk Φ vs n L (f + 1) listed a := by
  intro f
  induction f with
  | zero =>
    intro listed a inv _ hr hy H
    have hun := (mem_ready.1 hr).1
    refine ⟨fun h => (by rw [h] at hr; cases hr), fun j hj => ?_⟩
    have hjn : j < n := by
      rcases Nat.lt_or_ge j n with h | h
      · exact h
      · exact absurd hj (tail_waits hs hc hn inv _ i rfl hin hun j h)
    refine ⟨hjn, ?_⟩
    by_cases hji : j = i
    · subst hji; exact hy.vOpE hi H
    · have := hdone _ _ H j (ready_mono hj hji)
      omega
  | succ f ih =>
    intro listed a inv hfree hr hy H
    have hun := (mem_ready.1 hr).1
    refine ⟨fun h => (by rw [h] at hr; cases hr), fun j hj => ?_⟩
    have hjn : j < n := by
      rcases Nat.lt_or_ge j n with h | h
      · exact h
      · exact absurd hj (tail_waits hs hc hn inv _ i rfl hin hun j h)
    refine ⟨hjn, ?_⟩
    by_cases hji : j = i
    · subst hji; exact hy.vOpE hi H
    · have h1 := (H.2 j (ready_mono hj hji)).2
      obtain ⟨hjun, oj, hoj, hall⟩ := mem_ready.1 hj
      have hnot : ∀ e ∈ oj.after, Region.binds md e = true → e.on ≠ i := fun e he hb heq => by
        have h1 := hall e he hb
        rw [heq, getD_both hun] at h1
        cases h1
      have h2 := vOp_putE hoj (hfree j oj hoj hji hjun hnot) (fun cs b => hsel i oi cs b hi) (fun cs b => hsel j oj cs b hoj) hy h1
      have hfree' : ∀ k ok, ops[k]? = some ok → k ≠ i → (listed.setIfInBounds j true).getD k true = false →
          (∀ e ∈ ok.after, Region.binds md e = true → e.on ≠ i) → oi.apart ops ok = true := fun k ok hk hki hun hno => by
        refine hfree k ok hk hki ?_ hno
        by_cases hjk : j = k
        · subst hjk; exact hjun
        · rw [getD_set_ne true hjk] at hun; exact hun
      refine vOp_monoE (fun a' h3 => ih (listed.setIfInBounds j true) a' (inv.set hj hjn) hfree' (ready_mono hr (Ne.symm hji)) h3.1 ?_) h2
      rw [Array.setIfInBounds_comm _ _ hji]
      exact h3.2

theorem wpAnyV_lexE {n g : Nat} {Lq : Act → Prop} (hsel : Region.noSelect ops = true) (hs : Region.sinkB md ops n = true) (hc : Region.chainB md ops n = true) (hn : n < ops.size) :
    ∀ (l : List Oper) (k : Nat) (listed : Array Bool) (a : Act), (∀ j, j < l.length → l[j]? = ops[k + j]?) → k + l.length = n → HeadInv md ops n listed → (∀ j, j < k → listed.getD j false = true) →
    Region.lexHead md ops g l.length k listed = true → wpVE P ops C mk Φ vs Lq k l a →
    wpAnyVE P md ops C mk Φ vs n (fun listed' a' => Region.seqB md ops g n listed' = true ∧ (∀ j, j < n → listed'.getD j false = true) ∧ Lq a') l.length listed a
  | [], k, listed, a, _, hk, _, hall, hB, h => by
    have : k = n := by simpa using hk
    subst this
    exact ⟨by simpa [Region.lexHead] using hB, hall, h⟩
  | o :: l, k, listed, a, hl, hk, inv, hall, hB, h => by
    have h0 : ops[k]? = some o := by simpa using (hl 0 (by simp)).symm
    simp only [List.length_cons, Region.lexHead, Bool.and_eq_true] at hB
    obtain ⟨⟨hr, hf⟩, hB'⟩ := hB
    have hkn : k < n := by simp only [List.length_cons] at hk; omega
    have hr' : k ∈ Region.ready md ops listed := by simpa using hr
    obtain ⟨v, hy, hK⟩ := h
    have hsz : k < listed.size := by rw [inv.size]; omega
    have hall' : ∀ j, j < k + 1 → (listed.setIfInBounds k true).getD j false = true := fun j hj => by
      by_cases e : k = j
      · subst e; simp [hsz]
      · rw [getD_set_ne false e]; exact hall j (by omega)
    exact wpAnyV_firstE h0 (Region.noSelect_spec hsel) hs hc hn hkn (fun listed' a' hL => seqB_ready hL.1) l.length listed a inv (Region.free_spec h0 hf) hr' hy
      (wpAnyV_lexE hsel hs hc hn l (k + 1) _ _ (fun j hj => by have := hl (j + 1) (by simp; omega); simpa [Nat.add_assoc, Nat.add_comm 1 j] using this) (by simp only [List.length_cons] at hk; omega) (inv.set hr' hkn) hall' hB' hK)

theorem wp_of_makesE {o : Oper} {a : Act} {w : World} {F : Value → World → Prop} {K : Act → World → Prop} {Q' : Exit → Act → World → Prop} (hh : makesAtE P o a w F)
    (h : ∀ u w', Below w.heap.size w w' → F u w' → FreshInE w w' u → K (a.put o.dst u) w') : o.wp P a w K Q' := by
  unfold makesAtE at hh
  unfold Oper.wp
  generalize (execOp a.eval o).run P w = r at *
  cases r with
  | ok n w' =>
    cases n <;> simp only [makesUponE] at hh <;> simp only [Oper.upon]
    case value u => exact h _ _ hh.1 hh.2.1 hh.2.2
    case enter f args =>
      obtain ⟨e1, hc⟩ := hh
      rw [e1]
      exact hc.mono fun e w'' ⟨u, he, hb, hF, hfr⟩ => by subst he; exact h _ _ hb hF hfr
  | halt x w' => simp only [makesUponE] at hh
end

section
variable {P : Program} {ops : Array Oper} {mk : Nat → Bool} {Φ : Nat → Value → World → Prop}

/-- The blocks that the makers that have come up lead to: all there, no two the same. -/
def ApartVE (mk : Nat → Bool) (listed : Array Bool) (val : Nat → Value) (w : World) : Prop :=
  (∀ i, mk i = true → listed.getD i false = true → ∀ b, b ∈ nob (val i) → b < w.heap.size) ∧
  (∀ i j, i ≠ j → mk i = true → mk j = true → listed.getD i false = true → listed.getD j false = true → ∀ b, b ∈ nob (val i) → b ∉ nob (val j))
theorem ApartVE.next {listed : Array Bool} {val : Nat → Value} {w w' : World} (h : ApartVE mk listed val w) (hb : Below w.heap.size w w') : ApartVE mk listed val w' :=
  ⟨fun i h1 h2 b h3 => Nat.lt_of_lt_of_le (h.1 i h1 h2 b h3) hb.size, h.2⟩
theorem ApartVE.quiet {listed : Array Bool} {val : Nat → Value} {w : World} {i : Nat} (h : ApartVE mk listed val w) (hi : mk i = false) : ApartVE mk (listed.setIfInBounds i true) val w := by
  have back : ∀ j, mk j = true → (listed.setIfInBounds i true).getD j false = true → listed.getD j false = true := fun j hj hl => by
    rw [getD_set_ne false (fun e => by rw [← e, hi] at hj; cases hj)] at hl; exact hl
  exact ⟨fun j h1 h2 => h.1 j h1 (back j h1 h2), fun j k hne h1 h2 h3 h4 => h.2 j k hne h1 h2 (back j h1 h3) (back k h2 h4)⟩
theorem ApartVE.made {listed : Array Bool} {val : Nat → Value} {w w' : World} {i : Nat} {u : Value} (h : ApartVE mk listed val w) (hb : Below w.heap.size w w') (hf : FreshInE w w' u) :
    ApartVE mk (listed.setIfInBounds i true) (fun j => if j = i then u else val j) w' := by
  have back : ∀ j, j ≠ i → (listed.setIfInBounds i true).getD j false = true → listed.getD j false = true := fun j hj hl => by
    rw [getD_set_ne false (Ne.symm hj)] at hl; exact hl
  refine ⟨fun j h1 h2 b h3 => ?_, fun j k hne h1 h2 h3 h4 b h5 h6 => ?_⟩
  · by_cases e : j = i
    · subst e; simp only [if_true] at h3; exact (hf b h3).2
    · simp only [e, if_false] at h3; exact Nat.lt_of_lt_of_le (h.1 j h1 (back j e h2) b h3) hb.size
  · by_cases e : j = i
    · have e' : k ≠ i := fun e2 => hne (e.trans e2.symm)
      simp only [e, if_true] at h5
      simp only [e', if_false] at h6
      have := h.1 k h2 (back k e' h4) b h6
      have := (hf b h5).1
      omega
    · simp only [e, if_false] at h5
      have l5 := h.1 j h1 (back j e h3) b h5
      by_cases e' : k = i
      · simp only [e', if_true] at h6
        have := (hf b h6).1
        omega
      · simp only [e', if_false] at h6
        exact h.2 j k hne h1 h2 (back j e h3) (back k e' h4) b h5 h6

theorem wpAny_of_VE (hp : Probe P) {n g : Nat} {w0 : World} {L : (Nat → Value) → Array Bool → Act → Prop} {Q' : Exit → Act → World → Prop} {Sh : Nat → Value → Prop} (hΦ : ∀ i v w w', Φ i v w → Below w.heap.size w w' → Φ i v w') (hSh : ∀ i v w, mk i = true → Φ i v w → Sh i v)
    (hL : ∀ listed a w1 (val : Nat → Value), Below w0.heap.size w0 w1 → (∀ i, mk i = true → listed.getD i false = true → Φ i (val i) w1) → ApartVE mk listed val w1 → L val listed a → wpAny P .any ops Q' g listed a w1) :
    ∀ (f : Nat) (listed : Array Bool) (a : Act) (w1 : World) (val : Nat → Value), (∀ i, mk i = true → Sh i (val i)) → Below w0.heap.size w0 w1 → (∀ i, mk i = true → listed.getD i false = true → Φ i (val i) w1) → ApartVE mk listed val w1 →
      (∀ W, Below w0.heap.size w0 W → ∀ vs, (∀ i, mk i = true → Sh i (vs i)) → (∀ i, mk i = true → listed.getD i false = true → vs i = val i) → wpAnyVE P .any ops (extC W) mk Φ vs n (L vs) f listed a) → wpAny P .any ops Q' (f + g) listed a w1
  | 0, listed, a, w1, val, hv, hb, hf, hap, h => by
    rw [Nat.zero_add]
    exact hL _ _ _ _ hb hf hap (h w0 (Below.refl _ _) val hv (fun _ _ _ => rfl))
  | f + 1, listed, a, w1, val, hv, hb, hf, hap, h => by
    rw [show f + 1 + g = (f + g) + 1 by omega]
    have h0 := h w1 hb val hv (fun _ _ _ => rfl)
    refine ⟨fun e => absurd e h0.1, fun i hi => ?_⟩
    have hun := (mem_ready.1 hi).1
    obtain ⟨oi, hoi, hdep⟩ := (mem_ready.1 hi).2
    have hne : ∀ j, listed.getD j false = true → j ≠ i := fun j hj e => by
      subst e
      rw [getD_both hun] at hj
      cases hj
    have hset : ∀ j, j ≠ i → (listed.setIfInBounds i true).getD j false = true → listed.getD j false = true := fun j hj e => by
      rw [getD_set_ne false (Ne.symm hj)] at e; exact e
    obtain ⟨v1, hy1, _⟩ := yields_of_vOpE hoi (h0.2 i hi).2
    unfold wpOp
    simp only [hoi]
    rcases hy1 with ⟨hmk, hw, hm, _⟩ | ⟨hmk, hw, hq⟩ | ⟨hmk, hw, rfl⟩
    · rw [if_pos hw]
      refine .inl (wp_of_makesE (hm w1 (extC_of (Below.refl _ _)) (fun e he hbd hk => hf e.on hk (hdep e he hbd))) fun u w2 hb2 hu hfr => ?_)
      refine wpAny_of_VE (n := n) hp hΦ hSh hL f _ _ w2 (fun j => if j = i then u else val j) (fun j hj => (by
        by_cases e : j = i
        · subst e; simp only [if_true]; exact hSh _ _ _ hj hu
        · simp only [e, if_false]; exact hv j hj)) (hb.trans (hb2.mono hb.size)) (fun j hj hl => ?_) (hap.made hb2 hfr) (fun W hW vs hvs hag => ?_)
      · by_cases e : j = i
        · subst e; simp only [if_true]; exact hu
        · simp only [e, if_false]; exact hΦ _ _ _ _ (hf j hj (hset j e hl)) hb2
      · have h1 := h W hW vs hvs (fun j hj hl => by
          have hji := hne j hl
          have := hag j hj (by rw [getD_set_ne false (Ne.symm hji)]; exact hl)
          simpa [hji] using this)
        obtain ⟨v2, hy2, hK⟩ := yields_of_vOpE hoi (h1.2 i hi).2
        have hv2 : v2 = vs i := by
          rcases hy2 with ⟨_, _, _, e⟩ | ⟨e, _⟩ | ⟨e, _⟩
          · exact e
          · rw [hmk] at e; cases e
          · rw [hmk] at e; cases e
        have hvi : vs i = u := by
          have := hag i hmk (by
            have hsz : i < listed.size := by
              rcases Nat.lt_or_ge i listed.size with h' | h'
              · exact h'
              · simp [Array.getElem?_eq_none h'] at hun
            simp [hsz])
          simpa using this
        rw [hv2, hvi] at hK
        exact hK
    · rw [if_pos hw]
      refine .inl (wp_of_quietE (hq w1 (extC_of (Below.refl _ _))) fun w2 hb2 => ?_)
      refine wpAny_of_VE (n := n) hp hΦ hSh hL f _ _ w2 val hv (hb.trans (hb2.mono hb.size)) (fun j hj hl => ?_) ((hap.next hb2).quiet hmk) (fun W hW vs hvs hag => ?_)
      · have hji : j ≠ i := fun e => by rw [e, hmk] at hj; cases hj
        exact hΦ _ _ _ _ (hf j hj (hset j hji hl)) hb2
      · have hag' : ∀ j, mk j = true → listed.getD j false = true → vs j = val j := fun j hj hl => hag j hj (by
          rw [getD_set_ne false (Ne.symm (hne j hl))]; exact hl)
        obtain ⟨v2, hy2, hK⟩ := yields_of_vOpE hoi ((h W hW vs hvs hag').2 i hi).2
        obtain ⟨v0, hy0, _⟩ := yields_of_vOpE hoi ((h w0 (Below.refl _ _) vs hvs hag').2 i hi).2
        have q0 : ∀ w, extC w0 w → oi.quietAt P a (extC w0) w v0 := by
          rcases hy0 with ⟨e, _⟩ | ⟨_, _, e⟩ | ⟨_, e, _⟩
          · rw [hmk] at e; cases e
          · exact e
          · rw [hw] at e; cases e
        have q2 : ∀ w, extC W w → oi.quietAt P a (extC W) w v2 := by
          rcases hy2 with ⟨e, _⟩ | ⟨_, _, e⟩ | ⟨_, e, _⟩
          · rw [hmk] at e; cases e
          · exact e
          · rw [hw] at e; cases e
        have e1 : v0 = v1 := quiet_det hp (q0 w1 (extC_of hb)) (hq w1 (extC_of (Below.refl _ _)))
        have e2 : v0 = v2 := quiet_det hp (q0 W (extC_of hW)) (q2 W (extC_of (Below.refl _ _)))
        rw [← e2, e1] at hK
        exact hK
    · rw [if_neg (by rw [hw]; simp)]
      refine wpAny_of_VE (n := n) hp hΦ hSh hL f _ _ w1 val hv hb (fun j hj hl => ?_) (hap.quiet hmk) (fun W hW vs hvs hag => ?_)
      · have hji : j ≠ i := fun e => by rw [e, hmk] at hj; cases hj
        exact hf j hj (hset j hji hl)
      · have hag' : ∀ j, mk j = true → listed.getD j false = true → vs j = val j := fun j hj hl => hag j hj (by
          rw [getD_set_ne false (Ne.symm (hne j hl))]; exact hl)
        obtain ⟨v2, hy2, hK⟩ := yields_of_vOpE hoi ((h W hW vs hvs hag').2 i hi).2
        have e2 : v2 = undef := by
          rcases hy2 with ⟨e, _⟩ | ⟨_, e, _⟩ | ⟨_, _, e⟩
          · rw [hmk] at e; cases e
          · rw [hw] at e; cases e
          · exact e
        rw [e2] at hK
        exact hK

/-- Whatever order comes up in a region of quiet operations and makers ahead of a tail in forced order. -/
theorem wpAny_makersE {Q : Exit → Act → World → Prop} {a : Act} {w : World} {l : List Oper} (n : Nat) (mk : Nat → Bool) (Φ : Nat → Value → World → Prop) (Sh : Nat → Value → Prop) (vs0 : Nat → Value) (hp : Probe P) (hB : Region.lexTailB .any l.toArray n = true)
    (hΦ : ∀ i v w w', Φ i v w → Below w.heap.size w w' → Φ i v w') (hSh : ∀ i v w, mk i = true → Φ i v w → Sh i v) (hv0 : ∀ i, mk i = true → Sh i (vs0 i))
    (h : ∀ W, Below w.heap.size w W → ∀ vs, (∀ i, mk i = true → Sh i (vs i)) → wpVE P l.toArray (extC W) mk Φ vs (fun a' => ∀ w1, Below w.heap.size w w1 → (∀ i, i < n → mk i = true → Φ i (vs i) w1) → (∀ i j, i < n → j < n → i ≠ j → mk i = true → mk j = true → ∀ b, b ∈ nob (vs i) → b ∉ nob (vs j)) → wpList P l.toArray Q (l.drop n) a' w1) 0 (l.take n) a) :
    wpAny P .any l.toArray Q l.toArray.size (Array.replicate l.toArray.size false) a w.drew := by
  simp only [Region.lexTailB, Bool.and_eq_true, decide_eq_true_eq] at hB
  obtain ⟨⟨⟨⟨hsel, hn⟩, hs⟩, hc⟩, hlex⟩ := hB
  have hn' : n < l.length := by simpa using hn
  have htl : (l.take n).length = n := by simp; omega
  have hdl : (l.drop n).length = l.toArray.size - n := by simp
  have inv0 : HeadInv .any l.toArray n (Array.replicate l.toArray.size false) :=
    ⟨by simp, fun j oj _ hl => (by rw [getD_replicate_false] at hl; cases hl), fun t _ ht => getD_in (by simpa using ht) (getD_replicate_false _ _)⟩
  have bw : Below w.heap.size w w.drew := (Below.refl _ _).drew
  have H := fun W (hW : Below w.heap.size w W) vs hvs => wpAnyV_lexE (md := .any) (C := extC W) (mk := mk) (Φ := Φ) (vs := vs) (g := l.toArray.size - n) hsel hs hc hn (l.take n) 0 _ a (fun j hj => by
    have hj' : j < n := by rw [htl] at hj; exact hj
    simp [hj']) (by simpa using htl) inv0 (fun j hj => absurd hj (by omega)) (by rw [htl]; exact hlex) (h W hW vs hvs)
  have := wpAny_of_VE (Q' := Q) (w0 := w) (n := n) (g := l.toArray.size - n) (L := fun vs listed' a' => Region.seqB .any l.toArray (l.toArray.size - n) n listed' = true ∧ (∀ j, j < n → listed'.getD j false = true) ∧
      ∀ w1, Below w.heap.size w w1 → (∀ i, i < n → mk i = true → Φ i (vs i) w1) → (∀ i j, i < n → j < n → i ≠ j → mk i = true → mk j = true → ∀ b, b ∈ nob (vs i) → b ∉ nob (vs j)) → wpList P l.toArray Q (l.drop n) a' w1) hp hΦ hSh
    (fun listed a' w1 val hb hf hap hL' => by
      have := wpAny_of_seq (md := .any) (Q' := Q) (l.drop n) n listed a' w1 (fun j => by simp [List.getElem?_drop]) (by rw [hdl]; exact hL'.1) (hL'.2.2 w1 hb (fun i hi hmk => hf i hmk (hL'.2.1 i hi)) (fun i j hi hj hne h1 h2 => hap.2 i j hne h1 h2 (hL'.2.1 i hi) (hL'.2.1 j hj)))
      rwa [hdl] at this)
    (l.take n).length (Array.replicate l.toArray.size false) a w.drew vs0 hv0 bw (fun i _ hl => by rw [getD_replicate_false] at hl; cases hl) ⟨fun i _ hl => (by rw [getD_replicate_false] at hl; cases hl), fun i j _ _ _ hl => (by rw [getD_replicate_false] at hl; cases hl)⟩ (fun W hW vs hvs _ => H W hW vs hvs)
  rw [htl, show n + (l.toArray.size - n) = l.toArray.size by omega] at this
  exact this

/-- A region of quiet operations and makers ahead of a tail in forced order. -/
theorem wp_region_makersE {id : Nat} {Q : Exit → Act → World → Prop} {a : Act} {w : World} {l : List Oper} (n : Nat) (mk : Nat → Bool) (Φ : Nat → Value → World → Prop) (Sh : Nat → Value → Prop) (vs0 : Nat → Value) (hp : Probe P) (hm : P.follows .mixedOrders = true) (hB : Region.lexTailB .any l.toArray n = true)
    (hΦ : ∀ i v w w', Φ i v w → Below w.heap.size w w' → Φ i v w') (hSh : ∀ i v w, mk i = true → Φ i v w → Sh i v) (hv0 : ∀ i, mk i = true → Sh i (vs0 i))
    (h : ∀ W, Below w.heap.size w W → ∀ vs, (∀ i, mk i = true → Sh i (vs i)) → wpVE P l.toArray (extC W) mk Φ vs (fun a' => ∀ w1, Below w.heap.size w w1 → (∀ i, i < n → mk i = true → Φ i (vs i) w1) → (∀ i j, i < n → j < n → i ≠ j → mk i = true → mk j = true → ∀ b, b ∈ nob (vs i) → b ∉ nob (vs j)) → wpList P l.toArray Q (l.drop n) a' w1) 0 (l.take n) a) :
    (Code.region id l.toArray true).wp P Q a w := wp_region_any hm (wpAny_makersE n mk Φ Sh vs0 hp hB hΦ hSh hv0 h)

/-- A stretch of quiet operations. -/
theorem wpV_quietE {C : World → Prop} {vs : Nat → Value} {Q : Act → Prop} (hC : ∃ w, C w) : ∀ (m k : Nat) (l : List Oper) (a : Act), (∀ j, j < m → mk (k + j) = false) → m ≤ l.length →
    wpQuiet P ops C (fun a' => wpVE P ops C mk Φ vs Q (k + m) (l.drop m) a') (l.take m) a → wpVE P ops C mk Φ vs Q k l a
  | 0, k, l, a, _, _, h => by simpa [wpQuiet] using h
  | m + 1, k, [], a, _, hl, _ => by simp at hl
  | m + 1, k, o :: rest, a, hk, hl, h => by
    simp only [List.take_succ_cons, List.drop_succ_cons] at h
    have hk' : ∀ j, j < m → mk (k + 1 + j) = false := fun j h1 => by rw [show k + 1 + j = k + (j + 1) by omega]; exact hk (j + 1) (by omega)
    have hl' : m ≤ rest.length := by simpa using hl
    have go : ∀ a', wpQuiet P ops C (fun a' => wpVE P ops C mk Φ vs Q (k + (m + 1)) (rest.drop m) a') (rest.take m) a' → wpVE P ops C mk Φ vs Q (k + 1) rest a' := fun a' h' =>
      wpV_quietE hC m (k + 1) rest a' hk' hl' (by rw [show k + 1 + m = k + (m + 1) by omega]; exact h')
    unfold wpQuiet at h
    unfold wpVE
    by_cases hw : Region.wanted o (yielded ops a.tmps) = true
    · rw [if_pos hw] at h
      obtain ⟨v, h1, h2⟩ := h
      exact ⟨v, .inr (.inl ⟨hk 0 (by omega), hw, h1⟩), go _ h2⟩
    · rw [if_neg hw] at h
      exact ⟨undef, .inr (.inr ⟨hk 0 (by omega), by simpa using hw, rfl⟩), go _ h⟩
/-- A maker. -/
theorem wpV_makeE {C : World → Prop} {vs : Nat → Value} {Q : Act → Prop} {k : Nat} {o : Oper} {rest : List Oper} {a : Act} (hk : mk k = true) (hw : Region.wanted o (yielded ops a.tmps) = true)
    (hm : ∀ w, C w → depsOkE mk Φ vs o w → makesAtE P o a w (Φ k)) (h : wpVE P ops C mk Φ vs Q (k + 1) rest (a.put o.dst (vs k))) : wpVE P ops C mk Φ vs Q k (o :: rest) a :=
  ⟨vs k, .inl ⟨hk, hw, hm, rfl⟩, h⟩
theorem wpV_make_E {C : World → Prop} {vs : Nat → Value} {Q : Act → Prop} {k : Nat} {o : Oper} {rest : List Oper} {a : Act} (hk : mk k = true) (hw : o.guard = none)
    (hm : ∀ w, C w → depsOkE mk Φ vs o w → makesAtE P o a w (Φ k)) (h : wpVE P ops C mk Φ vs Q (k + 1) rest (a.put o.dst (vs k))) : wpVE P ops C mk Φ vs Q k (o :: rest) a := wpV_makeE hk (by simp [Region.wanted, hw]) hm h
theorem wpV_nilE {C : World → Prop} {vs : Nat → Value} {Q : Act → Prop} {k : Nat} {a : Act} (h : Q a) : wpVE P ops C mk Φ vs Q k [] a := h
end

end Go.Proofs.YtajoimopahibcaaGreat



/- Kinds of elements: inverses, zero divisors, nilpotents, idempotents, by both sides. -/
namespace Go.Proofs.YtajoimopahibcaaGreat
open Go.RowKit
set_option maxRecDepth 100000

end Go.Proofs.YtajoimopahibcaaGreat



/- Kinds of elements of the reading side: l3Inverse, l3Divides, l3Is. -/
namespace Go.Proofs.YtajoimopahibcaaGreat
open Go.RowKit
set_option maxRecDepth 100000

end Go.Proofs.YtajoimopahibcaaGreat



/- InverseOf, SumOrderOf and UnitOrderOf, of both sides. -/
namespace Go.Proofs.YtajoimopahibcaaGreat
open Go.RowKit
set_option maxRecDepth 100000

end Go.Proofs.YtajoimopahibcaaGreat



/- KindsOf of both sides. -/
namespace Go.Proofs.YtajoimopahibcaaGreat
open Go.RowKit
set_option maxRecDepth 100000

theorem own_nextK {w w' : World} {base : Nat} {e : TypeId} {size : Nat} {v : Value} {n : Nat} {xs : List Value} (h : w.ownsRow base e size v n xs) (hb : Below w.heap.size w w') : w'.ownsRow base e size v n xs :=
  h.kept (Go.Proofs.YtajoimopahibcaaGreat.Below.grown_ hb) (by
    rcases h.2 with ⟨rfl, _⟩ | ⟨g, cap, cur, rfl, _⟩
    · exact .inl rfl
    · exact .inr (by simp [Value.ownBlock]))

/-- The letters of the kinds, up to a kind. -/
def letterB (k : Nat) : UInt8 := #[117, 100, 110, 105].getD k 0
theorem letter_at (k : Nat) (h : k < 4) : ({ data := #[117, 100, 110, 105] } : ByteArray)[k]'h = letterB k := by
  have g : ∀ t : Fin 4, (#[117, 100, 110, 105] : Array UInt8)[t.val]'t.isLt = letterB t.val := by decide
  exact g ⟨k, h⟩

attribute [local go_sem] letter_at

end Go.Proofs.YtajoimopahibcaaGreat



/- An iterator over the elements that pass a test: the closure of where. -/
namespace Go.Proofs.YtajoimopahibcaaGreat
open Go.RowKit Go.Shelf
set_option maxRecDepth 100000
attribute [local go_sem] Oper.semAt_some

/-- The elements of a ring of m that pass a test, up to k. -/
def selTo (m : Nat) (p : Nat → Bool) : Nat → List (Fin m)
  | 0 => []
  | k + 1 => if h : k < m then (if p k = true then selTo m p k ++ [⟨k, h⟩] else selTo m p k) else selTo m p k
section
variable {m k : Nat} {p : Nat → Bool}
theorem selTo_yes (h : k < m) (hp : p k = true) : selTo m p (k + 1) = selTo m p k ++ [⟨k, h⟩] := by
  show (if h : k < m then (if p k = true then selTo m p k ++ [⟨k, h⟩] else selTo m p k) else selTo m p k) = _
  rw [dif_pos h, if_pos hp]
theorem selTo_no (hp : p k = false) : selTo m p (k + 1) = selTo m p k := by
  show (if h : k < m then (if p k = true then selTo m p k ++ [⟨k, h⟩] else selTo m p k) else selTo m p k) = _
  split
  · rw [if_neg (by rw [hp]; simp)]
  · rfl
theorem selTo_len : ∀ k, (selTo m p k).length ≤ k
  | 0 => Nat.le_refl _
  | k + 1 => by
    have := selTo_len k
    simp only [selTo]
    split
    · split <;> simp <;> omega
    · omega
theorem selTo_pre : ∀ d, selTo m p k <+: selTo m p (k + d)
  | 0 => List.prefix_refl _
  | d + 1 => by
    refine (selTo_pre d).trans ?_
    show _ <+: selTo m p (k + d + 1)
    simp only [selTo]
    split
    · split
      · exact List.prefix_append _ _
      · exact List.prefix_refl _
    · exact List.prefix_refl _
theorem selTo_le {l : Nat} (h : k ≤ l) : selTo m p k <+: selTo m p l := by
  have := selTo_pre (m := m) (p := p) (k := k) (l - k)
  rwa [show k + (l - k) = l by omega] at this
end

set_option maxHeartbeats 2000000 in
theorem where1_in (n m l Br Bp pf : Nat) (bd : Array Value) (p : Nat → Bool) (hn : 1 ≤ n) (hm' : m ≤ 16) (Kp : World → World → Prop) (Inv : World → Prop)
    (eg : ∀ args w, (callFunc pf args).run Tryz.prog w = .ok (.enter pf args) w)
    (i1 : ∀ W, Inv W → W.cell? ⟨Br, 0, none⟩ = some (.int .i64 m)) (i2 : ∀ W, Inv W → W.cell? ⟨Bp, 0, none⟩ = some (.func (.func pf) bd #[])) (i3 : ∀ W W', Inv W → Below W.heap.size W W' → Inv W') (i4 : ∀ W W', Inv W → Kp W W' → Inv W')
    (hp : ∀ a, a < m → ∀ W, Inv W → Calls Tryz.prog pf (bd.push (.int .i64 a)) W fun e w' => e = .returned (.bool (p a)) ∧ Below W.heap.size W w')
    (J Jx : List (Fin m) → World → Prop) (W : World) (hJ : AbidesFrom W.heap.size J)
    (hY : ∀ pre x W1, J pre W1 → pre.length < m → YieldAt Fence.wide (n - 1) Tryz.prog l #[.int .i64 (x.1 : Int)] W1 fun e W' =>
      (e = .returned (.bool true) ∧ J (pre ++ [x]) W' ∧ Kp W1 W') ∨ (e = .returned (.bool false) ∧ Jx (pre ++ [x]) W'))
    (hW : Inv W) (h0 : J [] W) :
    CallsIn Fence.wide n Tryz.prog 106 #[.func (.yield l) #[] #[], .pointer (some ⟨Br, 0, none⟩), .pointer (some ⟨Bp, 0, none⟩)] W fun e W' => (∃ v, e = .returned v) ∧
      ((∃ ys, ys = selTo m p m ∧ J ys W') ∨ (∃ pre, pre <+: selTo m p m ∧ Jx pre W')) := by
  have c1 := i1 W hW
  refine callsIn_of_wp Tryz.func106 rfl trivial ?_ rfl
  simp only [Tryz.ntmps106, List.size_toArray, List.length_cons, List.length_nil, Nat.reduceAdd, Nat.reduceSub, Array.replicate_succ, Array.replicate_zero, List.push_toArray, List.append_toArray, List.nil_append, List.cons_append]
  gi_wp2
  gi_loopw [7] (fun i wr => ∃ k : Nat, k ≤ m ∧ i = .int .i64 k ∧ J (selTo m p k) wr ∧ Inv wr) (fun i _ => m - (intOf i).toNat)
  case atStart => exact ⟨0, Nat.zero_le _, rfl, h0, hW⟩
  case round =>
    obtain ⟨k, hk, rfl, hJs, hI⟩ := hrel
    have c2 := i2 wr hI
    have JS := Lib.hid hJs
    clear hJs
    by_cases hlt : k < m
    · cases hq : p k
      · have hpk := hp k hlt wr hI
        rw [hq] at hpk
        have HQ := Lib.hid hq
        gi_wp2
        refine ⟨trivial, (callsIn_wide.2 hpk).mono ?_⟩
        rintro e w1 ⟨rfl, hb1⟩
        clear hpk
        gi_wp2
        refine ⟨fun _ h => (by cases h), ?_⟩
        gi_wp2
        go_roundw
        case rel => exact ⟨k + 1, by omega, by go_num, by rw [selTo_no HQ.out]; exact hJ _ wr w1 none JS.out (Below.grown_ hb1) (fun r e => by cases e), i3 _ _ hI hb1⟩
        case measure => simp [intOf]; omega
      · have hpk := hp k hlt wr hI
        rw [hq] at hpk
        have HQ := Lib.hid hq
        gi_wp2
        refine ⟨trivial, (callsIn_wide.2 hpk).mono ?_⟩
        rintro e w1 ⟨rfl, hb1⟩
        clear hpk
        have hl := selTo_len (m := m) (p := p) k
        obtain ⟨fn, tmps, assign, body, hy, hR⟩ := hY _ ⟨k, hlt⟩ w1 (hJ _ wr w1 none JS.out (Below.grown_ hb1) (fun r e => by cases e)) (by omega)
        dsimp only at hy
        have HI1 := Lib.hid (i3 _ _ hI hb1)
        gi_wp2
        refine hR.mono ?_
        rintro e W3 (⟨rfl, hJ3, hk3⟩ | ⟨rfl, hJx3⟩)
        · have HI3 := Lib.hid (i4 _ _ HI1.out hk3)
          gi_wp2
          go_roundw
          case rel => exact ⟨k + 1, by omega, by go_num, by rw [selTo_yes hlt HQ.out]; exact hJ3, HI3.out⟩
          case measure => simp [intOf]; omega
        · gi_wp2
          refine bodyPost_ret (results_none rfl _ _ _) rfl ?_
          exact ⟨⟨_, rfl⟩, .inr ⟨_, by rw [← selTo_yes hlt HQ.out]; exact selTo_le hlt, hJx3⟩⟩
    · have hkm : k = m := by omega
      subst hkm
      gi_wp2
      go_end0
      exact ⟨⟨_, rfl⟩, .inl ⟨_, rfl, JS.out⟩⟩

end Go.Proofs.YtajoimopahibcaaGreat



/- Lists that are collected from an iterator: where, AppendSeq, Collect. -/
namespace Go.Proofs.YtajoimopahibcaaGreat
open Go.RowKit Go.Shelf
set_option maxRecDepth 100000
attribute [local go_sem] Oper.semAt_some

theorem where_any (n o : Int) (A B : Option Addr) (la ca lb cb pf : Nat) (bd : Array Value) (w : World) :
    Calls Tryz.prog 68 #[.agg #[.int .i64 n, .int .i64 o, .slice A la ca, .slice B lb cb], .func (.func pf) bd #[]] w fun e w' =>
      e = .returned (.func (.func 106) #[] #[.pointer (some ⟨w.heap.size, 0, none⟩), .pointer (some ⟨w.heap.size + 1, 0, none⟩)]) ∧
      Blk w' w.heap.size 25 #[.int .i64 n, .int .i64 o, .slice A la ca, .slice B lb cb] ∧ Blk w' (w.heap.size + 1) 76 #[.func (.func pf) bd #[]] ∧ Below w.heap.size w w' := by
  go_enter Tryz.func68, Tryz.ntmps68
  go_wp2
  go_ret
  refine ⟨rfl, (Blk.new _ _ _).alloc _, ?_, ((Below.refl _ _).alloc (Nat.le_refl _) _).alloc (by simp) _⟩
  have := Blk.new (w.alloc (.cells #[.int .i64 n, .int .i64 o, .slice A la ca, .slice B lb cb] 25)) 76 #[.func (.func pf) bd #[]]
  rw [World.size_alloc] at this
  exact this

abbrev encF (m : Nat) (x : Fin m) : Array Value := #[.int .i64 (x.1 : Int)]
abbrev finV {m : Nat} (l : List (Fin m)) : List Value := l.map fun x => .int .i64 (x.1 : Int)
/-- What where hands back is an iterator over the elements that pass the test. -/
theorem where_stops (n m Br Bp pf : Nat) (bd : Array Value) (p : Nat → Bool) (hn : 1 ≤ n) (hm' : m ≤ 16) (Kp : World → World → Prop) (Inv : World → Prop)
    (eg : ∀ args w, (callFunc pf args).run Tryz.prog w = .ok (.enter pf args) w)
    (i1 : ∀ W, Inv W → W.cell? ⟨Br, 0, none⟩ = some (.int .i64 m)) (i2 : ∀ W, Inv W → W.cell? ⟨Bp, 0, none⟩ = some (.func (.func pf) bd #[])) (i3 : ∀ W W', Inv W → Below W.heap.size W W' → Inv W') (i4 : ∀ W W', Inv W → Kp W W' → Inv W')
    (hp : ∀ a, a < m → ∀ W, Inv W → Calls Tryz.prog pf (bd.push (.int .i64 a)) W fun e w' => e = .returned (.bool (p a)) ∧ Below W.heap.size W w')
    (w : World) (hI : ∀ W, Below w.heap.size w W → Inv W) :
    SeqStopsK Fence.wide n Tryz.prog 106 #[.pointer (some ⟨Br, 0, none⟩), .pointer (some ⟨Bp, 0, none⟩)] (encF m) Kp (fun ys => ys = selTo m p m) (fun pre => pre <+: selTo m p m) m w :=
  fun l J Jx W hW hJ _ hY h0 => where1_in n m l Br Bp pf bd p hn hm' Kp Inv eg i1 i2 i3 i4 hp J Jx W hJ hY (hI W hW) h0

set_option maxHeartbeats 4000000 in
theorem appendSeq_any (m gf n0 N : Nat) (lb : Array Value) (L : List (Fin m)) (Sp : List (Fin m) → Prop) (w : World) (eg : ∀ args w, (callFunc gf args).run Tryz.prog w = .ok (.enter gf args) w)
    (hseq : SeqStopsK Fence.wide 2 Tryz.prog gf lb (encF m) (Below n0) (fun ys => ys = L) Sp N w) (hN : N ≤ 1000) (hn0 : n0 ≤ w.heap.size) :
    Calls Tryz.prog 105 #[.slice none 0 0, .func (.func gf) #[] lb] w fun e w' => ∃ v, e = .returned v ∧ w'.ownsRow w.heap.size 3 1 v L.length (finV L) ∧ Below w.heap.size w w' := by
  obtain ⟨i0, hi, hz0, hz1, hz2⟩ := info_parts int_info
  refine (callsIn_wide (n := 3)).1 ?_
  refine callsIn_of_wp_marks Tryz.func105 rfl trivial ?_ rfl
  simp only [Tryz.ntmps105, List.size_toArray, List.length_cons, List.length_nil, Nat.reduceAdd, Nat.reduceSub, Array.replicate_succ, Array.replicate_zero, List.push_toArray, List.append_toArray, List.nil_append, List.cons_append]
  gi_wp2
  have bO := Boxed.new w 23 (.slice none 0 0)
  have hB0 : Below w.heap.size w (w.alloc (.cells #[.slice none 0 0] 23)) := (Below.refl _ w).alloc (Nat.le_refl _) _
  refine wpIn_rangeFunc_ownG rfl (by omega) (gf := gf) (lb := lb) rfl trivial eg hseq belowK_t (belowK_b (by simp; omega)) hB0 (fun _ => rfl)
    (fun pre W => (∃ v, Boxed W w.heap.size 23 v ∧ W.ownsRow w.heap.size 3 1 v pre.length (finV pre) ∧ True) ∧ Below w.heap.size w W)
    (fun _ _ _ => False)
    (OwnFrom.and (Own.from (holdsRow_own w.heap.size w.heap.size 23 3 1 (fun pre => pre.length) (fun pre => finV pre) (fun _ _ => True)) _) (ownFrom_below (Nat.le_refl _) (by simp)))
    (fun _ _ _ _ _ hs _ _ => hs)
    ⟨⟨_, bO, World.ownsRow_nil _ _ _ _, trivial⟩, hB0⟩
    (fun x => { tmps := #[.slice none 0 0, .func (.func gf) #[] lb, .pointer (some ⟨w.heap.size, 0, none⟩), undef, .slice none 0 0, .int .i64 (x.1 : Int), .func (.func gf) #[] lb, .int .i64 (x.1 : Int), undef, undef, undef, undef, undef], defers := [] }) ?assign ?body ?done ?stop
  case assign =>
    intro l x W K hK
    gi_wp2
    exact hK
  case body =>
    rintro l pre x W ⟨⟨v, hv, hrow, _⟩, hB⟩ hlt
    have hc := hv.cell
    gi_wp2_with (gi_at_builtin; refine wpListIn_append_own _ rfl _ _ 23 rfl w.heap.size 3 i0 (.int .i64 0) 1 8 Tryz.underlying23 hi hz0 hz1 hz2 rfl (by decide) _ _ _ rfl (hrow.alloc _) ⟨W.heap.size, 0, none⟩ 1 1 [.int .i64 (x.1 : Int)] rfl rfl (cell_one_new _ _ _) (by simp [Value.oneCell']) (by unfold maxLen; omega) (by omega) (by have := hB.size; simp; omega) ?_; intro v' w1 hown' hgrow _; obtain ⟨g', cap', rfl⟩ := ownsRow_succ hown'; obtain ⟨hv1, hv2, hr2, hk2, hb2⟩ := hv.appended (by decide) hrow hB.size (Nat.le_refl _) hown' hgrow; have hc1 := hv1.cell; have hf1 := hv1.frozen)
    exact ⟨hk2.from _, hb2.mono hn0, ⟨_, hv2, by simpa [finV] using hr2, trivial⟩, hB.trans hb2⟩
  case done =>
    rintro D ys W hD rfl ⟨⟨v, hv, hrow, _⟩, hB⟩ hK
    have hc := hv.cell
    gi_wp2
    refine ⟨by simp, .inl ⟨_, _, rfl, run_takeDeferred hK, ?_⟩⟩
    exact ⟨_, results_tmp rfl _ _ _, v, rfl, ownsRow_putObj hrow _ hK rfl, hB.trans (belowK_b (w := w) (Nat.le_refl _) W D _ _ (by simp at hD; omega) hK rfl rfl)⟩
  case stop =>
    rintro D c pre W _ _ h _
    exact h.elim

theorem collect_any (m gf n0 N : Nat) (lb : Array Value) (L : List (Fin m)) (Sp : List (Fin m) → Prop) (w : World) (eg : ∀ args w, (callFunc gf args).run Tryz.prog w = .ok (.enter gf args) w)
    (hseq : SeqStopsK Fence.wide 2 Tryz.prog gf lb (encF m) (Below n0) (fun ys => ys = L) Sp N w) (hN : N ≤ 1000) (hn0 : n0 ≤ w.heap.size) :
    Calls Tryz.prog 67 #[.func (.func gf) #[] lb] w fun e w' => ∃ v, e = .returned v ∧ w'.ownsRow w.heap.size 3 1 v L.length (finV L) ∧ Below w.heap.size w w' := by
  have H := Lib.hid (appendSeq_any m gf n0 N lb L Sp w eg hseq hN hn0)
  clear eg hseq
  go_enter Tryz.func67, Tryz.ntmps67
  go_wp2_with (go_at_call 105; (with_reducible refine H.out.mono ?_); rintro e1 w1 ⟨v, rfl, ho, hb⟩)
  go_ret
  exact ⟨v, rfl, ho, hb⟩

end Go.Proofs.YtajoimopahibcaaGreat



/- The elements of a kind, as the program lists them. -/
namespace Go.Proofs.YtajoimopahibcaaGreat
open Go.RowKit Go.Shelf
set_option maxRecDepth 100000

end Go.Proofs.YtajoimopahibcaaGreat



/- The lists of the elements of a kind, of both sides. -/
namespace Go.Proofs.YtajoimopahibcaaGreat
open Go.RowKit Go.Shelf
set_option maxRecDepth 100000

/-- The elements of a kind as numbers. -/
def finI {m : Nat} (l : List (Fin m)) : List Int := l.map fun x => (x.1 : Int)
theorem finI_len {m : Nat} {l : List (Fin m)} : (finI l).length = l.length := by simp [finI]
theorem finV_I {m : Nat} {l : List (Fin m)} : finV l = (finI l).map (.int .i64) := by simp [finI, finV]
theorem sel_out {D m n1 : Nat} {w : World} {v : Value} {l : List (Fin m)} (h : w.ownsRow D 3 1 v n1 (finV l)) (hl : n1 = l.length) (hm : n1 ≤ 16) : SliceOut D w v (finI l) :=
  SliceOut.of_row (finV_I ▸ h) (by rw [finI_len, hl]) (by omega)

end Go.Proofs.YtajoimopahibcaaGreat



/- The lists of the elements of a kind, as the reading side makes them. -/
namespace Go.Proofs.YtajoimopahibcaaGreat
open Go.RowKit
set_option maxRecDepth 100000

theorem own_lit_K {w : World} {base : Nat} {e : TypeId} (l : List Value) (hb : base ≤ w.heap.size) (hl : l.length ≤ maxLen) :
    (w.alloc (.cells l.toArray e)).ownsRow base e 1 (.slice (some ⟨w.heap.size, 0, none⟩) l.length l.length) l.length l :=
  ⟨by simp, .inr ⟨w.heap.size, l.length, l.toArray, rfl, hb, heap_alloc_new w _, Nat.le_refl _, hl, by simp, by simp⟩⟩

end Go.Proofs.YtajoimopahibcaaGreat



/- Sets of elements: setOf, and the equality of sets. -/
namespace Go.Proofs.YtajoimopahibcaaGreat
open Go.RowKit Go.Shelf
set_option maxRecDepth 100000
attribute [local go_sem] Oper.semAt_some

/-- A set as an array. -/
def setA (l : List Nat) : Array Value := (Array.range 16).map fun i => .bool (decide (i ∈ l))
theorem setA_size {l : List Nat} : (setA l).size = 16 := by simp [setA]
theorem setA_get {l : List Nat} {i : Nat} (h : i < 16) : (setA l)[i]? = some (.bool (decide (i ∈ l))) := by
  unfold setA
  rw [Array.getElem?_map, Array.getElem?_range, if_pos h]; rfl
theorem setA_one {l : List Nat} : (setA l).all (·.oneCell') = true := by
  rw [Array.all_eq_true_iff_forall_mem]
  intro x hx
  simp only [setA, Array.mem_map] at hx
  obtain ⟨i, _, rfl⟩ := hx
  rfl
theorem setA_set {l : List Nat} {k : Nat} : (setA l).setIfInBounds k (.bool true) = setA (l ++ [k]) := by
  apply Array.ext
  · simp [setA]
  · intro i h1 h2
    have h16 : i < 16 := by rw [setA_size] at h2; exact h2
    rw [Array.getElem_setIfInBounds (by rw [setA_size]; exact h16)]
    simp only [setA, Array.getElem_map, Array.getElem_range, List.mem_append, List.mem_singleton]
    split
    · rename_i e
      subst e
      simp
    · rename_i e
      congr 2
      exact propext ⟨fun h => .inl h, fun h => h.elim id (fun h => absurd h.symm e)⟩
theorem setA_nil : setA [] = #[.bool false, .bool false, .bool false, .bool false, .bool false, .bool false, .bool false, .bool false, .bool false, .bool false, .bool false, .bool false, .bool false, .bool false, .bool false, .bool false] := by
  unfold setA
  rw [show Array.range 16 = #[0, 1, 2, 3, 4, 5, 6, 7, 8, 9, 10, 11, 12, 13, 14, 15] from rfl]
  simp
def finN {m : Nat} (l : List (Fin m)) : List Nat := l.map (·.1)

section
variable {n : Nat} {P : Program} {ops : Array Oper} {rest : List Oper} {o : Oper} {a : Act} {w : World} {Q : Exit → Act → World → Prop}
theorem wpListIn_load_rowW (hgd : o.guard = none) (ty : TypeId) (x : Operand) (ho : o.op = .load ty x)
    (g : Nat) (hx : a.eval x = .pointer (some ⟨g, 0, none⟩)) (t : TypeId) (cs : Array Value) (fr : Nat × Nat) (d : TypeDesc) (hg : w.heap[g]? = some (.cells cs t fr))
    (hu : P.underlying ty = some d) (hd : (match d with | .struct _ | .array _ _ => true | _ => false) = true) (hi : (P.info? ty).map (·.size) = some cs.size)
    (h : wpListIn Fence.wide n P ops Q rest (a.put o.dst (.agg cs)) w) : wpListIn Fence.wide n P ops Q (o :: rest) a w :=
  wpListIn_plain hgd fun K hK => ⟨fun _ _ => trivial, by
    show o.uponIn Fence.wide n P a K Q ((execOp a.eval o).run P w)
    unfold execOp
    simp only [ho, hx, Instr.loadAt, Instr.sureAddr, Sem.run_bind, Sem.run_pure, Result.andThen_ok, run_loadVar_row w g t ty cs fr d hg hu hd hi]
    exact hK _ _ h⟩
theorem wpListIn_store_rowW (hgd : o.guard = none) (ty : TypeId) (x y : Operand) (ho : o.op = .store ty x y)
    (g : Nat) (cells : Array Value) (hx : a.eval x = .pointer (some ⟨g, 0, none⟩)) (hy : a.eval y = .agg cells)
    (t : TypeId) (old : Array Value) (hg : w.heap[g]? = some (.cells old t (0, 0))) (hi : (P.info? ty).map (·.size) = some cells.size)
    (hold : old.size = cells.size) (h1 : cells.all (·.oneCell') = true)
    (h : wpListIn Fence.wide n P ops Q rest (a.put o.dst undef) (w.setRow g cells)) : wpListIn Fence.wide n P ops Q (o :: rest) a w :=
  wpListIn_plain hgd fun K hK => ⟨fun _ _ => trivial, by
    show o.uponIn Fence.wide n P a K Q ((execOp a.eval o).run P w)
    unfold execOp
    simp only [ho, hx, hy, Instr.storeAt, Instr.sureAddr, Sem.run_bind, Sem.run_pure, Result.andThen_ok, run_storeVar_row w g t ty old cells hg hi hold h1]
    exact hK _ _ h⟩
end

theorem ownFrom_blk {β : Type} (B g : Nat) (T : TypeId) (f : β → Array Value) : OwnFrom B (fun s W => Blk W g T (f s)) := fun s W W' row h hg hr => (hg.block g h.lt (fun e => by
  obtain ⟨_, o, ho, hc⟩ := hr g e.symm
  unfold Blk at h
  rw [h] at ho
  cases ho
  cases hc)).trans h

set_option maxHeartbeats 1000000 in
theorem put_any (g a : Nat) (l : List Nat) (w : World) (hb : Blk w g 50 (setA l)) (ha : a < 16) :
    Calls Tryz.prog 89 #[.pointer (some ⟨g, 0, none⟩), .int .i64 a] w fun e w' => (∃ v, e = .returned v) ∧ w' = w.setCell ⟨g, a, none⟩ (.bool true) := by
  have hx0 : (0 : Int) ≤ (a : Int) := by omega
  have hx1 : (a : Int) < 16 := by omega
  have hc := (hb.cell a).trans (setA_get ha)
  have hf := hb.frozen a
  have hl := hb.lt
  clear hb
  go_enter Tryz.func89, Tryz.ntmps89
  go_wp2
  go_end0
  exact ⟨⟨_, rfl⟩, rfl⟩

set_option maxHeartbeats 4000000 in
theorem setOf_any (m gf n0 N : Nat) (lb : Array Value) (L : List (Fin m)) (Sp : List (Fin m) → Prop) (w : World) (hm' : m ≤ 16) (eg : ∀ args w, (callFunc gf args).run Tryz.prog w = .ok (.enter gf args) w)
    (hseq : SeqStopsK Fence.wide 2 Tryz.prog gf lb (encF m) (Below n0) (fun ys => ys = L) Sp N w) (hn0 : n0 ≤ w.heap.size) :
    Calls Tryz.prog 84 #[.func (.func gf) #[] lb] w fun e w' => e = .returned (.agg (setA (finN L))) ∧ Below w.heap.size w w' := by
  refine (callsIn_wide (n := 3)).1 ?_
  refine callsIn_of_wp_marks Tryz.func84 rfl trivial ?_ rfl
  simp only [Tryz.ntmps84, List.size_toArray, List.length_cons, List.length_nil, Nat.reduceAdd, Nat.reduceSub, Array.replicate_succ, Array.replicate_zero, List.push_toArray, List.append_toArray, List.nil_append, List.cons_append]
  gi_wp2
  obtain ⟨W, hW⟩ : ∃ W, (w.alloc (.cells (setA []) 50)).alloc (.cells (setA []) 50) = W := ⟨_, rfl⟩
  have k0 : Blk W w.heap.size 50 (setA []) := by
    subst hW; exact (Blk.new w _ _).alloc _
  have k1 : Blk W (w.heap.size + 1) 50 (setA []) := by
    subst hW
    have := Blk.new (w.alloc (.cells (setA []) 50)) 50 (setA [])
    rw [World.size_alloc] at this
    exact this
  have b0 : Below w.heap.size w W := by
    subst hW; exact ((Below.refl _ _).alloc (Nat.le_refl _) _).alloc (by simp) _
  have hsW : W.heap.size = w.heap.size + 2 := by subst hW; simp
  rw [← setA_nil, hW]
  clear hW
  refine wpIn_rangeFunc_ownG rfl (by omega) (gf := gf) (lb := lb) rfl trivial eg hseq belowK_t (belowK_b (by omega)) b0 (fun _ => rfl)
    (fun pre V => (Blk V (w.heap.size + 1) 50 (setA (finN pre)) ∧ Blk V w.heap.size 50 (setA [])) ∧ Below w.heap.size w V)
    (fun _ _ _ => False)
    (OwnFrom.and (OwnFrom.and (ownFrom_blk _ _ _ _) (ownFrom_blk _ _ _ (fun _ => setA []))) (ownFrom_below (Nat.le_refl _) (by omega)))
    (fun _ _ _ _ _ hs _ _ => hs)
    ⟨⟨k1, k0⟩, b0⟩
    (fun x => { tmps := #[.func (.func gf) #[] lb, undef, .pointer (some ⟨w.heap.size, 0, none⟩), .pointer (some ⟨w.heap.size + 1, 0, none⟩), .int .i64 (x.1 : Int), .func (.func gf) #[] lb, .int .i64 (x.1 : Int), undef, undef, undef], defers := [] }) ?assign ?body ?done ?stop
  case assign =>
    intro l x V K hK
    gi_wp2
    exact hK
  case body =>
    rintro l pre x V ⟨⟨h1, h2⟩, hB⟩ hlt
    have hx : x.1 < 16 := Nat.lt_of_lt_of_le x.2 hm'
    have H1 := Lib.hid h1
    have H2 := Lib.hid h2
    clear h1 h2
    gi_wp2
    refine ⟨trivial, ?_⟩
    refine (CallsIn.inRound l (callsIn_wide.2 (put_any (w.heap.size + 1) x.1 (finN pre) V H1.out hx))).mono ?_
    rintro e1 V1 ⟨⟨v1, rfl⟩, rfl⟩
    gi_wp2
    refine ⟨(KeepsOthers.setCell _ _ _).from _, (Below.refl n0 V).setCell (p := ⟨w.heap.size + 1, x.1, none⟩) (Nat.le_trans hn0 (Nat.le_succ _)) _, ⟨?_, H2.out.far (by simp) _⟩, hB.setCell (p := ⟨w.heap.size + 1, x.1, none⟩) (Nat.le_succ _) _⟩
    have := H1.out.set_ x.1 (.bool true)
    rw [setA_set] at this
    simpa [finN] using this
  case done =>
    rintro D ys V hD rfl ⟨⟨h1, h2⟩, hB⟩ hK
    obtain ⟨S, hS⟩ : ∃ S, setA (finN ys) = S := ⟨_, rfl⟩
    have hs1 : S.size = 16 := by rw [← hS, setA_size]
    have hs2 : S.all (·.oneCell') = true := by rw [← hS]; exact setA_one
    rw [hS] at h1
    have HS := Lib.hid hS
    clear hS
    have hi : (Tryz.prog.info? 50).map (·.size) = some S.size := by rw [hs1]; kernel_rfl
    have hold : (setA []).size = S.size := by rw [hs1, setA_size]
    gi_wp2_with (first
      | (refine wpListIn_load_rowW rfl 50 (.tmp 3) rfl (w.heap.size + 1) rfl _ S (0, 0) _ h1 Tryz.underlying50 rfl hi ?_)
      | (refine wpListIn_store_rowW rfl 50 (.tmp 2) (.tmp 9) rfl w.heap.size S rfl rfl _ (setA []) h2 hi hold hs2 ?_))
    have hD2 : D ≠ w.heap.size := by omega
    have hK2 : (V.setRow w.heap.size S).heap[D]? = some (.deferred (some [])) := (setRow_other V w.heap.size D S hD2).trans hK
    have hB2 : Below w.heap.size w (V.setRow w.heap.size S) := below_setRow hB (Nat.le_refl _) S
    have hR : ((V.setRow w.heap.size S).putObj D (.deferred none)).heap[w.heap.size]? = some (.cells S 50 (0, 0)) := (World.putObj_heap_other (Ne.symm hD2)).trans (setRow_heap V w.heap.size _ S _ _ h2)
    refine ⟨by simp, .inl ⟨_, _, rfl, run_takeDeferred hK2, ?_⟩⟩
    exact ⟨_, results_cell_row Tryz.results84 _ _ w.heap.size 50 S (0, 0) _ rfl hR Tryz.underlying50 rfl hi, by rw [HS.out], hB2.trans (belowK_b (w := w) (Nat.le_refl _) (V.setRow w.heap.size S) D _ _ (by omega) hK2 rfl rfl)⟩
  case stop =>
    rintro D c pre W _ _ h _
    exact h.elim

end Go.Proofs.YtajoimopahibcaaGreat



/- IsField: the plain facts; sets that are compared; the program's set.has and its test of what is not 0. -/
namespace Go.Proofs.YtajoimopahibcaaGreat
open Go.RowKit Go.Shelf
set_option maxRecDepth 100000

section
variable {m e : Nat} {S P : Nat → Nat}
end

section
variable {m : Nat} {p q : Nat → Bool}
theorem selTo_congr (h : ∀ a, a < m → p a = q a) : ∀ k, k ≤ m → selTo m p k = selTo m q k
  | 0, _ => rfl
  | k + 1, hk => by
    have ih := selTo_congr h k (by omega)
    have hk' := h k (by omega)
    cases hq : q k
    · rw [selTo_no hq, selTo_no (by rw [hk', hq]), ih]
    · rw [selTo_yes (by omega) hq, selTo_yes (by omega) (by rw [hk', hq]), ih]
theorem selTo_mem {i : Nat} : ∀ k, k ≤ m → (i ∈ finN (selTo m p k) ↔ i < k ∧ p i = true)
  | 0, _ => by simp [selTo, finN]
  | k + 1, hk => by
    have ih := selTo_mem (i := i) k (by omega)
    cases hp : p k
    · rw [selTo_no hp, ih]
      constructor
      · rintro ⟨h1, h2⟩; exact ⟨by omega, h2⟩
      · rintro ⟨h1, h2⟩
        refine ⟨?_, h2⟩
        rcases Nat.lt_succ_iff_lt_or_eq.1 h1 with h3 | rfl
        · exact h3
        · rw [hp] at h2; cases h2
    · rw [selTo_yes (by omega) hp]
      simp only [finN, List.map_append, List.map_cons, List.map_nil, List.mem_append, List.mem_singleton]
      rw [show i ∈ List.map (fun x => x.1) (selTo m p k) ↔ i < k ∧ p i = true from ih]
      constructor
      · rintro (⟨h1, h2⟩ | rfl)
        · exact ⟨by omega, h2⟩
        · exact ⟨by omega, hp⟩
      · rintro ⟨h1, h2⟩
        rcases Nat.lt_succ_iff_lt_or_eq.1 h1 with h3 | rfl
        · exact .inl ⟨h3, h2⟩
        · exact .inr rfl
end
/-- Two sets have the same elements. -/
def sameA (l1 l2 : List Nat) : Bool := decide (∀ i, i ∈ List.range 16 → (i ∈ l1 ↔ i ∈ l2))
theorem eq_items {w : World} {l1 l2 : List Nat} : ∀ is : List Nat, (∀ i ∈ is, i < 16) → (Op.eqItems 9999 4 1 (setA l1) (setA l2) is).run Tryz.prog w = .ok (decide (∀ i, i ∈ is → (i ∈ l1 ↔ i ∈ l2))) w
  | [], _ => by simp [Op.eqItems]
  | i :: is, h => by
    have hi := h i (by simp)
    have g1 := setA_get (l := l1) hi
    have g2 := setA_get (l := l2) hi
    have p1 := run_part_plain (P := Tryz.prog) (w := w) (e := 4) (by kernel_rfl) (off := i * 1) (by rw [Nat.mul_one]; exact g1)
    have p2 := run_part_plain (P := Tryz.prog) (w := w) (e := 4) (by kernel_rfl) (off := i * 1) (by rw [Nat.mul_one]; exact g2)
    have ih := eq_items (w := w) (l1 := l1) (l2 := l2) is (fun j hj => h j (by simp [hj]))
    simp only [Op.eqItems, Sem.run_bind, p1, p2, Result.andThen_ok, run_equalIn_bool w 9998 4 _ _ Tryz.underlying4]
    by_cases e : (i ∈ l1 ↔ i ∈ l2)
    · have e' : (decide (i ∈ l1) == decide (i ∈ l2)) = true := by
        rw [beq_iff_eq]; exact decide_eq_decide.2 e
      simp only [e', Bool.not_true, Bool.false_eq_true, if_false, ih]
      congr 1
      rw [decide_eq_decide]
      exact ⟨fun g j hj => (List.mem_cons.1 hj).elim (fun q => q ▸ e) (fun q => g j q), fun g j hj => g j (List.mem_cons_of_mem _ hj)⟩
    · have e' : (decide (i ∈ l1) == decide (i ∈ l2)) = false := by
        rw [beq_eq_false_iff_ne]; exact fun q => e (decide_eq_decide.1 q)
      simp only [e', Bool.not_false, if_true, Sem.run_pure]
      congr 1
      symm
      rw [decide_eq_false_iff_not]
      exact fun g => e (g i List.mem_cons_self)
theorem eq_set (w : World) (l1 l2 : List Nat) : (Op.equalIn 10000 50 (.agg (setA l1)) (.agg (setA l2))).run Tryz.prog w = .ok (sameA l1 l2) w := by
  obtain ⟨i0, hi, _⟩ := info_parts (P := Tryz.prog) (show (Tryz.prog.info? 4).map (fun i => (i.zero, i.size, i.bytes)) = some (some (.bool false), 1, 1) by kernel_rfl)
  have h := run_equalIn_array (P := Tryz.prog) (w := w) 9999 (setA l1) (setA l2) Tryz.underlying50 hi
  have hc : Tryz.prog.cellsOf 4 = 1 := by kernel_rfl
  rw [hc] at h
  exact h.trans (eq_items (List.range 16) (fun i hi => List.mem_range.1 hi))

theorem setHas_any (l : List Nat) (a : Nat) (w : World) (ha : a < 16) : Calls Tryz.prog 65 (#[.agg (setA l)].push (.int .i64 a)) w fun e w' => e = .returned (.bool (decide (a ∈ l))) ∧ Below w.heap.size w w' := by
  have h0 : (0 : Int) ≤ (a : Int) := by omega
  have h1 : (a : Int) < 16 := by omega
  have hg := setA_get (l := l) ha
  obtain ⟨b, hb⟩ : ∃ b, decide (a ∈ l) = b := ⟨_, rfl⟩
  rw [hb] at hg ⊢
  obtain ⟨S, hS⟩ : ∃ S, setA l = S := ⟨_, rfl⟩
  rw [hS] at hg ⊢
  have hc : (w.alloc (.cells S 50)).cell? ⟨w.heap.size, a, none⟩ = some (.bool b) := ((Blk.new w _ _).cell a).trans hg
  clear hb hS
  go_enter Tryz.func65, Tryz.ntmps65
  go_wp2
  go_ret
  exact ⟨rfl, (Below.refl _ _).alloc (Nat.le_refl _) _⟩

abbrev seqV (Br Bp : Nat) : Value := .func (.func 106) #[] #[.pointer (some ⟨Br, 0, none⟩), .pointer (some ⟨Bp, 0, none⟩)]

end Go.Proofs.YtajoimopahibcaaGreat



/- Sets and lists of elements, what both sides share: whatever comes in. -/
namespace Go.Proofs.YtajoimopahibcaaGreat
open Go.RowKit Go.Shelf
set_option maxRecDepth 100000
attribute [local go_sem] Oper.semAt_some

/-- What a round of the loop over the units keeps: all but the set. -/
def KpA (n1 Br Bp : Nat) (V V' : World) : Prop := Below n1 V V' ∧ V'.heap[Br]? = V.heap[Br]? ∧ V'.heap[Bp]? = V.heap[Bp]?
theorem KpA_t {n1 Br Bp : Nat} {A B C : World} (h : KpA n1 Br Bp A B) (k : KpA n1 Br Bp B C) : KpA n1 Br Bp A C := ⟨h.1.trans k.1, k.2.1.trans h.2.1, k.2.2.trans h.2.2⟩
theorem KpA_b {n1 Br Bp : Nat} {w : World} (hn : n1 ≤ w.heap.size) (hr : Br < w.heap.size) (hp : Bp < w.heap.size) (W : World) (l : Nat) (o o' : Obj) (hl : w.heap.size ≤ l) (h : W.heap[l]? = some o) (hc : o.isCells = false) (hw : o.isWalk = false) : KpA n1 Br Bp W (W.putObj l o') :=
  ⟨belowK_b hn W l o o' hl h hc hw, World.putObj_heap_other (by omega), World.putObj_heap_other (by omega)⟩

theorem sel_wide {m : Nat} {p : Nat → Bool} (hm : m ≤ 16) : ∀ k, k ≤ m → finI (selTo 16 p k) = finI (selTo m p k)
  | 0, _ => rfl
  | k + 1, hk => by
    have ih := sel_wide (p := p) hm k (by omega)
    cases hp : p k
    · rw [selTo_no hp, selTo_no hp, ih]
    · rw [selTo_yes (by omega) hp, selTo_yes (by omega) hp]
      simp only [finI, List.map_append, List.map_cons, List.map_nil] at ih ⊢
      rw [ih]
theorem sel_tail {m : Nat} {p : Nat → Bool} (h : ∀ i, m ≤ i → p i = false) : ∀ d, selTo 16 p (m + d) = selTo 16 p m
  | 0 => rfl
  | d + 1 => by
    show selTo 16 p (m + d + 1) = _
    rw [selTo_no (h (m + d) (by omega)), sel_tail h d]
theorem sel_16 {m : Nat} {p : Nat → Bool} (hm : m ≤ 16) (h : ∀ i, m ≤ i → p i = false) : finI (selTo 16 p 16) = finI (selTo m p m) := by
  have := sel_tail h (16 - m)
  rw [show m + (16 - m) = 16 by omega] at this
  rw [this, sel_wide hm m (Nat.le_refl _)]

theorem index_set (w : World) (S : Array Value) (j : Nat) (b : Bool) (hj : j < 16) (hg : S[j]? = some (.bool b)) : (Instr.index 49 (.agg S) (.int .i64 (j : Int))).run Tryz.prog w = .ok (.bool b) w := by
  obtain ⟨i0, hi, _⟩ := info_parts (P := Tryz.prog) (show (Tryz.prog.info? 4).map (fun i => (i.zero, i.size, i.bytes)) = some (some (.bool false), 1, 1) by kernel_rfl)
  have hs := run_sizeOf (P := Tryz.prog) w hi
  have hc : Tryz.prog.cellsOf 4 = 1 := by kernel_rfl
  have h1 : (0 : Int) ≤ (j : Int) ∧ (j : Int) < ((16 : Nat) : Int) := by omega
  simp [Instr.index, run_underlying Tryz.underlying49, asIntOf, h1, go_sem, hs, hc, hj, hg]
theorem finI_get {m k : Nat} {l : List (Fin m)} (hk : k < l.length) : ∃ u : Nat, u < m ∧ (finI l)[k]?.getD 0 = (u : Int) ∧ (finN l).take (k + 1) = (finN l).take k ++ [u] := by
  refine ⟨l[k].1, l[k].2, by simp [finI, hk], ?_⟩
  rw [List.take_add_one]
  simp [finN, hk]

set_option maxHeartbeats 4000000 in
theorem l3Set_any (l : List Nat) (S : Array Value) (w : World) (hS : setA l = S) :
    Calls Tryz.prog 48 #[.agg S] w fun e' w' => ∃ v, e' = .returned v ∧ SliceOut w.heap.size w' v (finI (selTo 16 (fun i => decide (i ∈ l)) 16)) ∧ Below w.heap.size w w' := by
  obtain ⟨i0, hi, hz0, hz1, hz2⟩ := info_parts int_info
  have hS1 : S.size = 16 := by rw [← hS, setA_size]
  have hiS : (Tryz.prog.info? 49).map (·.size) = some S.size := by rw [hS1]; kernel_rfl
  obtain ⟨W, hW⟩ : ∃ W, (w.alloc (.cells S 49)).alloc (.cells #[] 3) = W := ⟨_, rfl⟩
  have k0 : Blk W w.heap.size 49 S := by
    subst hW; exact (Blk.new w _ _).alloc _
  have b0 : Below w.heap.size w W := by
    subst hW; exact ((Below.refl _ _).alloc (Nat.le_refl _) _).alloc (by simp) _
  have o0 : W.ownsRow w.heap.size 3 1 (.slice (some ⟨w.heap.size + 1, 0, none⟩) 0 0) 0 [] := by
    subst hW
    have := own_lit_K (w := w.alloc (.cells S 49)) (base := w.heap.size) (e := 3) [] (by simp) (by unfold maxLen; simp)
    simpa using this
  have HS := Lib.hid hS
  have HW := Lib.hid hW
  have O0 := Lib.hid o0
  have B0 := Lib.hid b0
  clear hW hS b0 o0
  go_enter Tryz.func48, Tryz.ntmps48
  go_wp2_with (first
    | (refine wpList_load_row rfl 49 (.tmp 1) rfl w.heap.size rfl _ S (0, 0) _ (by rw [HW.out]; exact k0) Tryz.underlying49 rfl hiS ?_; rw [HW.out]))
  go_loopg [3, 8] 16 (fun g vs vi wr => ∃ j : Nat, j ≤ 16 ∧ 16 ≤ j + g ∧ vi = .int .i64 j ∧ wr.ownsRow w.heap.size 3 1 vs (selTo 16 (fun i => decide (i ∈ l)) j).length (finV (selTo 16 (fun i => decide (i ∈ l)) j)) ∧ Below w.heap.size w wr)
  case atStart => exact ⟨0, Nat.zero_le _, by omega, rfl, O0.out, B0.out⟩
  case round =>
    obtain ⟨j, hj, hg, rfl, hown, hb⟩ := hrel
    have hsz := hb.size
    have OW := Lib.hid hown
    have BW := Lib.hid hb
    have hln := selTo_len (m := 16) (p := fun i => decide (i ∈ l)) j
    clear hown hb
    by_cases hlt : j < 16
    · have hg1 := setA_get (l := l) hlt
      rw [HS.out] at hg1
      cases hq : decide (j ∈ l)
      · rw [hq] at hg1
        have hix := index_set wr S j _ hlt hg1
        have HQ := Lib.hid (selTo_no (m := 16) (p := fun i => decide (i ∈ l)) hq)
        clear hq
        go_wp2
        go_roundg (16 - (j + 1))
        case measure => omega
        case rel => exact ⟨j + 1, by omega, by omega, by go_num, by rw [HQ.out]; exact OW.out, BW.out⟩
      · rw [hq] at hg1
        have hix := index_set wr S j _ hlt hg1
        have HQ := Lib.hid (selTo_yes (m := 16) (p := fun i => decide (i ∈ l)) hlt hq)
        have wr2 : Below wr.heap.size wr (wr.alloc (.cells #[.int .i64 (j : Int)] 3)) := (Below.refl _ _).alloc (Nat.le_refl _) _
        clear hq
        go_wp2_with (at_builtin; refine wpList_append_own _ rfl _ _ 23 rfl w.heap.size 3 i0 (.int .i64 0) 1 8 Tryz.underlying23 hi hz0 hz1 hz2 rfl (by decide) _ _ _ rfl (OW.out.alloc _) ⟨wr.heap.size, 0, none⟩ 1 1 [.int .i64 j] rfl rfl (by intro i u hi; match i, hi with | 0, hi => simp at hi; subst hi; simp [Addr.add]) (by intro u hu; simp at hu; subst hu; rfl) (by unfold maxLen; omega) (by omega) (by simp; omega) ?_; intro v5 w5 hown5 hg5 _; have B5 := Lib.hid ((BW.out.trans (wr2.mono hsz)).grown hg5 (Nat.le_trans hsz wr2.size) (fun k hk => (OW.out.lt k hk).1)); have O5 := Lib.hid (show w5.ownsRow w.heap.size 3 1 v5 (selTo 16 (fun i => decide (i ∈ l)) (j + 1)).length (finV (selTo 16 (fun i => decide (i ∈ l)) (j + 1))) by rw [HQ.out]; simpa [finV] using hown5); clear hown5 hg5)
        go_roundg (16 - (j + 1))
        case measure => omega
        case rel => exact ⟨j + 1, by omega, by omega, by go_num, O5.out, B5.out⟩
    · have hjm : j = 16 := by omega
      subst hjm
      go_wp2
      go_ret
      exact ⟨_, rfl, sel_out OW.out rfl (by omega), BW.out⟩

end Go.Proofs.YtajoimopahibcaaGreat



/- IsField of both sides. -/
namespace Go.Proofs.YtajoimopahibcaaGreat
open Go.RowKit Go.Shelf
set_option maxRecDepth 100000

attribute [local go_sem] eq_set
attribute [local go_sem ↓] Go.wp_at_zero Go.wp_at_succ

end Go.Proofs.YtajoimopahibcaaGreat



/- IsField of the reading side. -/
namespace Go.Proofs.YtajoimopahibcaaGreat
open Go.RowKit
set_option maxRecDepth 100000

end Go.Proofs.YtajoimopahibcaaGreat



/- Plain facts: inverses, orders of units, and that they divide the number of units. No program in sight. -/
namespace Go.Proofs.YtajoimopahibcaaGreat
open Go.RowKit

section
variable {m e : Nat} {S P : Nat → Nat}
end

theorem selTo_in {m : Nat} {p : Nat → Bool} {x : Fin m} : ∀ k, k ≤ m → (x ∈ selTo m p k ↔ x.1 < k ∧ p x.1 = true)
  | 0, _ => by simp [selTo]
  | k + 1, hk => by
    have ih := selTo_in (m := m) (x := x) (p := p) k (by omega)
    cases hp : p k
    · rw [selTo_no hp, ih]
      constructor
      · rintro ⟨h1, h2⟩; exact ⟨by omega, h2⟩
      · rintro ⟨h1, h2⟩
        refine ⟨?_, h2⟩
        rcases Nat.lt_or_ge x.1 k with h | h
        · exact h
        · have : x.1 = k := by omega
          rw [this, hp] at h2; cases h2
    · rw [selTo_yes (by omega) hp, List.mem_append, ih, List.mem_singleton]
      constructor
      · rintro (⟨h1, h2⟩ | rfl)
        · exact ⟨by omega, h2⟩
        · exact ⟨by simp, hp⟩
      · rintro ⟨h1, h2⟩
        rcases Nat.lt_or_ge x.1 k with h | h
        · exact .inl ⟨h, h2⟩
        · exact .inr (Fin.ext (show x.1 = k by omega))
theorem selTo_nodup {m : Nat} {p : Nat → Bool} : ∀ k, k ≤ m → (selTo m p k).Nodup
  | 0, _ => by simp [selTo]
  | k + 1, hk => by
    have ih := selTo_nodup (m := m) (p := p) k (by omega)
    cases hp : p k
    · rw [selTo_no hp]; exact ih
    · rw [selTo_yes (by omega) hp, List.nodup_append]
      refine ⟨ih, by simp, fun a ha b hb e => ?_⟩
      rw [List.mem_singleton] at hb
      subst hb e
      have := ((selTo_in k (by omega)).1 ha).1
      simp at this
end Go.Proofs.YtajoimopahibcaaGreat



/- Plain facts: each element is a unit or a zero divisor; nilpotents; subgroups divide; associates. No program in sight. -/
namespace Go.Proofs.YtajoimopahibcaaGreat
open Go.RowKit

section
variable {m e : Nat} {S P : Nat → Nat}
end

section
variable {m : Nat} {p q : Nat → Bool}
theorem finI_get_val {l : List (Fin m)} {i : Nat} (h : i < l.length) : (finI l)[i]?.getD 0 = ((l[i]).1 : Int) := by
  unfold finI
  rw [List.getElem?_map, List.getElem?_eq_getElem h]
  rfl
end

section
variable {m e : Nat} {S P : Nat → Nat}
end

end Go.Proofs.YtajoimopahibcaaGreat

