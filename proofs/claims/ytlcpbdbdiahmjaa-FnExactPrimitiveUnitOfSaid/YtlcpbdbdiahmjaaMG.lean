/- Texts of this seat in one: M8 N2 N3 N4 N5 I1 I2 I3 I4 I5 E3. -/
import Derived.Test.YtlcpbdbdiahmjaaMC
import Derived.Test.YtlcpbdbdiahmjaaMB
import Derived.Laws.BytesArg
import Derived.RangeFuncNested
import Derived.RangeFuncBound
import Derived.RangeFuncCalls
import Derived.RangeFuncLeaves
import Derived.RangeFuncBox
import Derived.Shelf.Abstract
import Derived.Shelf.RegionOpen
import Derived.OwnWalkIn
import Derived.TacticsInMore
import Derived.LoopNIn
import Derived.LoopIn
import Derived.Maps.AppendAt

/- Regions that draw their order: makers that lean on makers, whose values need not lead to new blocks. -/
namespace Go.Proofs.Ytlcpbdbdiahmjaa
open Go.RowKit

section
variable {P : Program} {ops : Array Oper} {md : Region.Mode} {C : World → Prop} {mk : Nat → Bool} {Φ : Nat → Value → World → Prop} {vs : Nat → Value}

def nob (_ : Value) : List Nat := []
/-- A block that was made between two worlds. -/
def FreshInE (w w' : World) (u : Value) : Prop := ∀ b, b ∈ nob u → w.heap.size ≤ b ∧ b < w'.heap.size
/-- A maker: from each world of the class it yields some value, in a world that leaves all old memory alone and of which the fact holds. -/
def makesUponE (P : Program) (w : World) (F : Value → World → Prop) : Result Next → Prop
  | .ok (.value u) w' => Below w.heap.size w w' ∧ F u w' ∧ FreshInE w w' u
  | .ok (.enter f args) w' => w' = w ∧ Calls P f args w (fun e w'' => ∃ u, e = .returned u ∧ Below w.heap.size w w'' ∧ F u w'' ∧ FreshInE w w'' u)
  | _ => False
def makesAtE (P : Program) (o : Oper) (a : Act) (w : World) (F : Value → World → Prop) : Prop := makesUponE P w F ((execOp a.eval o).run P w)


/-- The facts of the makers that an operation waits for. -/
def depsOkE (mk : Nat → Bool) (Φ : Nat → Value → World → Prop) (vs : Nat → Value) (o : Oper) (w : World) : Prop := ∀ e ∈ o.after, Region.binds .any e = true → mk e.on = true → Φ e.on (vs e.on) w
def YieldsVE (P : Program) (ops : Array Oper) (C : World → Prop) (mk : Nat → Bool) (Φ : Nat → Value → World → Prop) (vs : Nat → Value) (i : Nat) (o : Oper) (v : Value) (a : Act) : Prop :=
  (mk i = true ∧ Region.wanted o (yielded ops a.tmps) = true ∧ (∀ w, C w → depsOkE mk Φ vs o w → makesAtE P o a w (Φ i)) ∧ v = vs i) ∨
  (mk i = false ∧ Region.wanted o (yielded ops a.tmps) = true ∧ ∀ w, C w → o.quietAt P a C w v) ∨
  (mk i = false ∧ Region.wanted o (yielded ops a.tmps) = false ∧ v = undef)
/-- Operation number i comes up. -/
def vOpE (P : Program) (ops : Array Oper) (C : World → Prop) (mk : Nat → Bool) (Φ : Nat → Value → World → Prop) (vs : Nat → Value) (i : Nat) (K : Act → Prop) (a : Act) : Prop :=
  match ops[i]? with
  | none => K a
  | some o => ∃ v, YieldsVE P ops C mk Φ vs i o v a ∧ K (a.put o.dst v)

theorem vOp_monoE {i : Nat} {a : Act} {K K' : Act → Prop} (h : ∀ a, K a → K' a) (hh : vOpE P ops C mk Φ vs i K a) : vOpE P ops C mk Φ vs i K' a := by
  unfold vOpE at *
  split
  · exact h _ (by simpa [*] using hh)
  · rename_i o ho
    simp only [ho] at hh
    obtain ⟨v, h1, h2⟩ := hh
    exact ⟨v, h1, h _ h2⟩
theorem YieldsVE.vOpE {i : Nat} {o : Oper} {v : Value} {a : Act} (hi : ops[i]? = some o) (hy : YieldsVE P ops C mk Φ vs i o v a) {K : Act → Prop} (h : K (a.put o.dst v)) : vOpE P ops C mk Φ vs i K a := by
  unfold Go.Proofs.Ytlcpbdbdiahmjaa.vOpE
  simp only [hi]
  exact ⟨v, hy, h⟩
theorem yields_of_vOpE {i : Nat} {o : Oper} {a : Act} {K : Act → Prop} (hi : ops[i]? = some o) (h : vOpE P ops C mk Φ vs i K a) : ∃ v, YieldsVE P ops C mk Φ vs i o v a ∧ K (a.put o.dst v) := by
  unfold vOpE at h
  simpa only [hi] using h
theorem YieldsVE.of_same {i : Nat} {o : Oper} {v : Value} {a a' : Act} (hy : YieldsVE P ops C mk Φ vs i o v a) (he : execOp a'.eval o = execOp a.eval o)
    (hw : Region.wanted o (yielded ops a'.tmps) = Region.wanted o (yielded ops a.tmps)) : YieldsVE P ops C mk Φ vs i o v a' := by
  unfold YieldsVE Oper.quietAt makesAtE at *
  rw [he, hw]
  exact hy
theorem vOp_putE {i j : Nat} {oi oj : Oper} {v : Value} (hj : ops[j]? = some oj) (hap : oi.apart ops oj = true)
    (hsi : ∀ cs b, oi.op ≠ .select cs b) (hsj : ∀ cs b, oj.op ≠ .select cs b) {K : Act → Prop} {a : Act}
    (hy : YieldsVE P ops C mk Φ vs i oi v a) (h : vOpE P ops C mk Φ vs j K (a.put oi.dst v)) :
    vOpE P ops C mk Φ vs j (fun a' => YieldsVE P ops C mk Φ vs i oi v a' ∧ K (a'.put oi.dst v)) a := by
  obtain ⟨h1, h2, h3⟩ := Oper.apart_spec hap
  obtain ⟨u, hu, hn⟩ := yields_of_vOpE hj h
  refine YieldsVE.vOpE hj (hu.of_same (execOp_put oj hsj a oi.dst v h1).symm (wanted_put oj a oi.dst v h1).symm) ⟨?_, ?_⟩
  · exact hy.of_same (execOp_put oi hsi a oj.dst u h3) (wanted_put oi a oj.dst u h3)
  · rw [← Act.put_comm a v u h2]; exact hn

/-- The walk in the order of the text. -/
def wpVE (P : Program) (ops : Array Oper) (C : World → Prop) (mk : Nat → Bool) (Φ : Nat → Value → World → Prop) (vs : Nat → Value) (Q : Act → Prop) : Nat → List Oper → Act → Prop
  | _, [], a => Q a
  | k, o :: rest, a => ∃ v, YieldsVE P ops C mk Φ vs k o v a ∧ wpVE P ops C mk Φ vs Q (k + 1) rest (a.put o.dst v)

def wpAnyVE (P : Program) (md : Region.Mode) (ops : Array Oper) (C : World → Prop) (mk : Nat → Bool) (Φ : Nat → Value → World → Prop) (vs : Nat → Value) (n : Nat) (L : Array Bool → Act → Prop) : Nat → Array Bool → Act → Prop
  | 0, listed, a => L listed a
  | f + 1, listed, a =>
    Region.ready md ops listed ≠ [] ∧ ∀ i ∈ Region.ready md ops listed, i < n ∧ vOpE P ops C mk Φ vs i (wpAnyVE P md ops C mk Φ vs n L f (listed.setIfInBounds i true)) a

theorem wpAnyV_firstE {n i : Nat} {oi : Oper} {v : Value} {L : Array Bool → Act → Prop} (hi : ops[i]? = some oi) (hsel : ∀ (j : Nat) (o : Oper) cs b, ops[j]? = some o → o.op ≠ .select cs b)
    (hs : Region.sinkB md ops n = true) (hc : Region.chainB md ops n = true) (hn : n < ops.size) (hin : i < n)
    (hdone : ∀ listed a, L listed a → ∀ j ∈ Region.ready md ops listed, n ≤ j) :
    ∀ (f : Nat) (listed : Array Bool) (a : Act), HeadInv md ops n listed →
      (∀ j oj, ops[j]? = some oj → j ≠ i → listed.getD j true = false → (∀ e ∈ oj.after, Region.binds md e = true → e.on ≠ i) → oi.apart ops oj = true) →
      i ∈ Region.ready md ops listed → YieldsVE P ops C mk Φ vs i oi v a →
      wpAnyVE P md ops C mk Φ vs n L f (listed.setIfInBounds i true) (a.put oi.dst v) → wpAnyVE P md ops C mk Φ vs n L (f + 1) listed a := by
  intro f
  induction f with
  | zero =>
    intro listed a inv _ hr hy H
    have hun := (mem_ready.1 hr).1
    refine ⟨fun h => (by rw [h] at hr; cases hr), fun j hj => ?_⟩
    have hjn : j < n := by
      rcases Nat.lt_or_ge j n with h | h
      · exact h
      · exact absurd hj (tail_waits hs hc hn inv _ i rfl hin hun j h)
    refine ⟨hjn, ?_⟩
    by_cases hji : j = i
    · subst hji; exact hy.vOpE hi H
    · have := hdone _ _ H j (ready_mono hj hji)
      omega
  | succ f ih =>
    intro listed a inv hfree hr hy H
    have hun := (mem_ready.1 hr).1
    refine ⟨fun h => (by rw [h] at hr; cases hr), fun j hj => ?_⟩
    have hjn : j < n := by
      rcases Nat.lt_or_ge j n with h | h
      · exact h
      · exact absurd hj (tail_waits hs hc hn inv _ i rfl hin hun j h)
    refine ⟨hjn, ?_⟩
    by_cases hji : j = i
    · subst hji; exact hy.vOpE hi H
    · have h1 := (H.2 j (ready_mono hj hji)).2
      obtain ⟨hjun, oj, hoj, hall⟩ := mem_ready.1 hj
      have hnot : ∀ e ∈ oj.after, Region.binds md e = true → e.on ≠ i := fun e he hb heq => by
        have h1 := hall e he hb
        rw [heq, getD_both hun] at h1
        cases h1
      have h2 := vOp_putE hoj (hfree j oj hoj hji hjun hnot) (fun cs b => hsel i oi cs b hi) (fun cs b => hsel j oj cs b hoj) hy h1
      have hfree' : ∀ k ok, ops[k]? = some ok → k ≠ i → (listed.setIfInBounds j true).getD k true = false →
          (∀ e ∈ ok.after, Region.binds md e = true → e.on ≠ i) → oi.apart ops ok = true := fun k ok hk hki hun hno => by
        refine hfree k ok hk hki ?_ hno
        by_cases hjk : j = k
        · subst hjk; exact hjun
        · rw [getD_set_ne true hjk] at hun; exact hun
      refine vOp_monoE (fun a' h3 => ih (listed.setIfInBounds j true) a' (inv.set hj hjn) hfree' (ready_mono hr (Ne.symm hji)) h3.1 ?_) h2
      rw [Array.setIfInBounds_comm _ _ hji]
      exact h3.2

theorem wpAnyV_lexE {n g : Nat} {Lq : Act → Prop} (hsel : Region.noSelect ops = true) (hs : Region.sinkB md ops n = true) (hc : Region.chainB md ops n = true) (hn : n < ops.size) :
    ∀ (l : List Oper) (k : Nat) (listed : Array Bool) (a : Act), (∀ j, j < l.length → l[j]? = ops[k + j]?) → k + l.length = n → HeadInv md ops n listed → (∀ j, j < k → listed.getD j false = true) →
    Region.lexHead md ops g l.length k listed = true → wpVE P ops C mk Φ vs Lq k l a →
    wpAnyVE P md ops C mk Φ vs n (fun listed' a' => Region.seqB md ops g n listed' = true ∧ (∀ j, j < n → listed'.getD j false = true) ∧ Lq a') l.length listed a
  | [], k, listed, a, _, hk, _, hall, hB, h => by
    have : k = n := by simpa using hk
    subst this
    exact ⟨by simpa [Region.lexHead] using hB, hall, h⟩
  | o :: l, k, listed, a, hl, hk, inv, hall, hB, h => by
    have h0 : ops[k]? = some o := by simpa using (hl 0 (by simp)).symm
    simp only [List.length_cons, Region.lexHead, Bool.and_eq_true] at hB
    obtain ⟨⟨hr, hf⟩, hB'⟩ := hB
    have hkn : k < n := by simp only [List.length_cons] at hk; omega
    have hr' : k ∈ Region.ready md ops listed := by simpa using hr
    obtain ⟨v, hy, hK⟩ := h
    have hsz : k < listed.size := by rw [inv.size]; omega
    have hall' : ∀ j, j < k + 1 → (listed.setIfInBounds k true).getD j false = true := fun j hj => by
      by_cases e : k = j
      · subst e; simp [hsz]
      · rw [getD_set_ne false e]; exact hall j (by omega)
    exact wpAnyV_firstE h0 (Region.noSelect_spec hsel) hs hc hn hkn (fun listed' a' hL => seqB_ready hL.1) l.length listed a inv (Region.free_spec h0 hf) hr' hy
      (wpAnyV_lexE hsel hs hc hn l (k + 1) _ _ (fun j hj => by have := hl (j + 1) (by simp; omega); simpa [Nat.add_assoc, Nat.add_comm 1 j] using this) (by simp only [List.length_cons] at hk; omega) (inv.set hr' hkn) hall' hB' hK)

theorem wp_of_makesE {o : Oper} {a : Act} {w : World} {F : Value → World → Prop} {K : Act → World → Prop} {Q' : Exit → Act → World → Prop} (hh : makesAtE P o a w F)
    (h : ∀ u w', Below w.heap.size w w' → F u w' → FreshInE w w' u → K (a.put o.dst u) w') : o.wp P a w K Q' := by
  unfold makesAtE at hh
  unfold Oper.wp
  generalize (execOp a.eval o).run P w = r at *
  cases r with
  | ok n w' =>
    cases n <;> simp only [makesUponE] at hh <;> simp only [Oper.upon]
    case value u => exact h _ _ hh.1 hh.2.1 hh.2.2
    case enter f args =>
      obtain ⟨e1, hc⟩ := hh
      rw [e1]
      exact hc.mono fun e w'' ⟨u, he, hb, hF, hfr⟩ => by subst he; exact h _ _ hb hF hfr
  | halt x w' => simp only [makesUponE] at hh
end

section
variable {P : Program} {ops : Array Oper} {mk : Nat → Bool} {Φ : Nat → Value → World → Prop}

/-- The blocks that the makers that have come up lead to: all there, no two the same. -/
def ApartVE (mk : Nat → Bool) (listed : Array Bool) (val : Nat → Value) (w : World) : Prop :=
  (∀ i, mk i = true → listed.getD i false = true → ∀ b, b ∈ nob (val i) → b < w.heap.size) ∧
  (∀ i j, i ≠ j → mk i = true → mk j = true → listed.getD i false = true → listed.getD j false = true → ∀ b, b ∈ nob (val i) → b ∉ nob (val j))
theorem ApartVE.next {listed : Array Bool} {val : Nat → Value} {w w' : World} (h : ApartVE mk listed val w) (hb : Below w.heap.size w w') : ApartVE mk listed val w' :=
  ⟨fun i h1 h2 b h3 => Nat.lt_of_lt_of_le (h.1 i h1 h2 b h3) hb.size, h.2⟩
theorem ApartVE.quiet {listed : Array Bool} {val : Nat → Value} {w : World} {i : Nat} (h : ApartVE mk listed val w) (hi : mk i = false) : ApartVE mk (listed.setIfInBounds i true) val w := by
  have back : ∀ j, mk j = true → (listed.setIfInBounds i true).getD j false = true → listed.getD j false = true := fun j hj hl => by
    rw [getD_set_ne false (fun e => by rw [← e, hi] at hj; cases hj)] at hl; exact hl
  exact ⟨fun j h1 h2 => h.1 j h1 (back j h1 h2), fun j k hne h1 h2 h3 h4 => h.2 j k hne h1 h2 (back j h1 h3) (back k h2 h4)⟩
theorem ApartVE.made {listed : Array Bool} {val : Nat → Value} {w w' : World} {i : Nat} {u : Value} (h : ApartVE mk listed val w) (hb : Below w.heap.size w w') (hf : FreshInE w w' u) :
    ApartVE mk (listed.setIfInBounds i true) (fun j => if j = i then u else val j) w' := by
  have back : ∀ j, j ≠ i → (listed.setIfInBounds i true).getD j false = true → listed.getD j false = true := fun j hj hl => by
    rw [getD_set_ne false (Ne.symm hj)] at hl; exact hl
  refine ⟨fun j h1 h2 b h3 => ?_, fun j k hne h1 h2 h3 h4 b h5 h6 => ?_⟩
  · by_cases e : j = i
    · subst e; simp only [if_true] at h3; exact (hf b h3).2
    · simp only [e, if_false] at h3; exact Nat.lt_of_lt_of_le (h.1 j h1 (back j e h2) b h3) hb.size
  · by_cases e : j = i
    · have e' : k ≠ i := fun e2 => hne (e.trans e2.symm)
      simp only [e, if_true] at h5
      simp only [e', if_false] at h6
      have := h.1 k h2 (back k e' h4) b h6
      have := (hf b h5).1
      omega
    · simp only [e, if_false] at h5
      have l5 := h.1 j h1 (back j e h3) b h5
      by_cases e' : k = i
      · simp only [e', if_true] at h6
        have := (hf b h6).1
        omega
      · simp only [e', if_false] at h6
        exact h.2 j k hne h1 h2 (back j e h3) (back k e' h4) b h5 h6

theorem wpAny_of_VE (hp : Probe P) {n g : Nat} {w0 : World} {L : (Nat → Value) → Array Bool → Act → Prop} {Q' : Exit → Act → World → Prop} {Sh : Nat → Value → Prop} (hΦ : ∀ i v w w', Φ i v w → Below w.heap.size w w' → Φ i v w') (hSh : ∀ i v w, mk i = true → Φ i v w → Sh i v)
    (hL : ∀ listed a w1 (val : Nat → Value), Below w0.heap.size w0 w1 → (∀ i, mk i = true → listed.getD i false = true → Φ i (val i) w1) → ApartVE mk listed val w1 → L val listed a → wpAny P .any ops Q' g listed a w1) :
    ∀ (f : Nat) (listed : Array Bool) (a : Act) (w1 : World) (val : Nat → Value), (∀ i, mk i = true → Sh i (val i)) → Below w0.heap.size w0 w1 → (∀ i, mk i = true → listed.getD i false = true → Φ i (val i) w1) → ApartVE mk listed val w1 →
      (∀ W, Below w0.heap.size w0 W → ∀ vs, (∀ i, mk i = true → Sh i (vs i)) → (∀ i, mk i = true → listed.getD i false = true → vs i = val i) → wpAnyVE P .any ops (extC W) mk Φ vs n (L vs) f listed a) → wpAny P .any ops Q' (f + g) listed a w1
  | 0, listed, a, w1, val, hv, hb, hf, hap, h => by
    rw [Nat.zero_add]
    exact hL _ _ _ _ hb hf hap (h w0 (Below.refl _ _) val hv (fun _ _ _ => rfl))
  | f + 1, listed, a, w1, val, hv, hb, hf, hap, h => by
    rw [show f + 1 + g = (f + g) + 1 by omega]
    have h0 := h w1 hb val hv (fun _ _ _ => rfl)
    refine ⟨fun e => absurd e h0.1, fun i hi => ?_⟩
    have hun := (mem_ready.1 hi).1
    obtain ⟨oi, hoi, hdep⟩ := (mem_ready.1 hi).2
    have hne : ∀ j, listed.getD j false = true → j ≠ i := fun j hj e => by
      subst e
      rw [getD_both hun] at hj
      cases hj
    have hset : ∀ j, j ≠ i → (listed.setIfInBounds i true).getD j false = true → listed.getD j false = true := fun j hj e => by
      rw [getD_set_ne false (Ne.symm hj)] at e; exact e
    obtain ⟨v1, hy1, _⟩ := yields_of_vOpE hoi (h0.2 i hi).2
    unfold wpOp
    simp only [hoi]
    rcases hy1 with ⟨hmk, hw, hm, _⟩ | ⟨hmk, hw, hq⟩ | ⟨hmk, hw, rfl⟩
    · rw [if_pos hw]
      refine .inl (wp_of_makesE (hm w1 (extC_of (Below.refl _ _)) (fun e he hbd hk => hf e.on hk (hdep e he hbd))) fun u w2 hb2 hu hfr => ?_)
      refine wpAny_of_VE (n := n) hp hΦ hSh hL f _ _ w2 (fun j => if j = i then u else val j) (fun j hj => (by
        by_cases e : j = i
        · subst e; simp only [if_true]; exact hSh _ _ _ hj hu
        · simp only [e, if_false]; exact hv j hj)) (hb.trans (hb2.mono hb.size)) (fun j hj hl => ?_) (hap.made hb2 hfr) (fun W hW vs hvs hag => ?_)
      · by_cases e : j = i
        · subst e; simp only [if_true]; exact hu
        · simp only [e, if_false]; exact hΦ _ _ _ _ (hf j hj (hset j e hl)) hb2
      · have h1 := h W hW vs hvs (fun j hj hl => by
          have hji := hne j hl
          have := hag j hj (by rw [getD_set_ne false (Ne.symm hji)]; exact hl)
          simpa [hji] using this)
        obtain ⟨v2, hy2, hK⟩ := yields_of_vOpE hoi (h1.2 i hi).2
        have hv2 : v2 = vs i := by
          rcases hy2 with ⟨_, _, _, e⟩ | ⟨e, _⟩ | ⟨e, _⟩
          · exact e
          · rw [hmk] at e; cases e
          · rw [hmk] at e; cases e
        have hvi : vs i = u := by
          have := hag i hmk (by
            have hsz : i < listed.size := by
              rcases Nat.lt_or_ge i listed.size with h' | h'
              · exact h'
              · simp [Array.getElem?_eq_none h'] at hun
            simp [hsz])
          simpa using this
        rw [hv2, hvi] at hK
        exact hK
    · rw [if_pos hw]
      refine .inl (wp_of_quietE (hq w1 (extC_of (Below.refl _ _))) fun w2 hb2 => ?_)
      refine wpAny_of_VE (n := n) hp hΦ hSh hL f _ _ w2 val hv (hb.trans (hb2.mono hb.size)) (fun j hj hl => ?_) ((hap.next hb2).quiet hmk) (fun W hW vs hvs hag => ?_)
      · have hji : j ≠ i := fun e => by rw [e, hmk] at hj; cases hj
        exact hΦ _ _ _ _ (hf j hj (hset j hji hl)) hb2
      · have hag' : ∀ j, mk j = true → listed.getD j false = true → vs j = val j := fun j hj hl => hag j hj (by
          rw [getD_set_ne false (Ne.symm (hne j hl))]; exact hl)
        obtain ⟨v2, hy2, hK⟩ := yields_of_vOpE hoi ((h W hW vs hvs hag').2 i hi).2
        obtain ⟨v0, hy0, _⟩ := yields_of_vOpE hoi ((h w0 (Below.refl _ _) vs hvs hag').2 i hi).2
        have q0 : ∀ w, extC w0 w → oi.quietAt P a (extC w0) w v0 := by
          rcases hy0 with ⟨e, _⟩ | ⟨_, _, e⟩ | ⟨_, e, _⟩
          · rw [hmk] at e; cases e
          · exact e
          · rw [hw] at e; cases e
        have q2 : ∀ w, extC W w → oi.quietAt P a (extC W) w v2 := by
          rcases hy2 with ⟨e, _⟩ | ⟨_, _, e⟩ | ⟨_, e, _⟩
          · rw [hmk] at e; cases e
          · exact e
          · rw [hw] at e; cases e
        have e1 : v0 = v1 := quiet_det hp (q0 w1 (extC_of hb)) (hq w1 (extC_of (Below.refl _ _)))
        have e2 : v0 = v2 := quiet_det hp (q0 W (extC_of hW)) (q2 W (extC_of (Below.refl _ _)))
        rw [← e2, e1] at hK
        exact hK
    · rw [if_neg (by rw [hw]; simp)]
      refine wpAny_of_VE (n := n) hp hΦ hSh hL f _ _ w1 val hv hb (fun j hj hl => ?_) (hap.quiet hmk) (fun W hW vs hvs hag => ?_)
      · have hji : j ≠ i := fun e => by rw [e, hmk] at hj; cases hj
        exact hf j hj (hset j hji hl)
      · have hag' : ∀ j, mk j = true → listed.getD j false = true → vs j = val j := fun j hj hl => hag j hj (by
          rw [getD_set_ne false (Ne.symm (hne j hl))]; exact hl)
        obtain ⟨v2, hy2, hK⟩ := yields_of_vOpE hoi ((h W hW vs hvs hag').2 i hi).2
        have e2 : v2 = undef := by
          rcases hy2 with ⟨e, _⟩ | ⟨_, e, _⟩ | ⟨_, _, e⟩
          · rw [hmk] at e; cases e
          · rw [hw] at e; cases e
          · exact e
        rw [e2] at hK
        exact hK

/-- Whatever order comes up in a region of quiet operations and makers ahead of a tail in forced order. -/
theorem wpAny_makersE {Q : Exit → Act → World → Prop} {a : Act} {w : World} {l : List Oper} (n : Nat) (mk : Nat → Bool) (Φ : Nat → Value → World → Prop) (Sh : Nat → Value → Prop) (vs0 : Nat → Value) (hp : Probe P) (hB : Region.lexTailB .any l.toArray n = true)
    (hΦ : ∀ i v w w', Φ i v w → Below w.heap.size w w' → Φ i v w') (hSh : ∀ i v w, mk i = true → Φ i v w → Sh i v) (hv0 : ∀ i, mk i = true → Sh i (vs0 i))
    (h : ∀ W, Below w.heap.size w W → ∀ vs, (∀ i, mk i = true → Sh i (vs i)) → wpVE P l.toArray (extC W) mk Φ vs (fun a' => ∀ w1, Below w.heap.size w w1 → (∀ i, i < n → mk i = true → Φ i (vs i) w1) → (∀ i j, i < n → j < n → i ≠ j → mk i = true → mk j = true → ∀ b, b ∈ nob (vs i) → b ∉ nob (vs j)) → wpList P l.toArray Q (l.drop n) a' w1) 0 (l.take n) a) :
    wpAny P .any l.toArray Q l.toArray.size (Array.replicate l.toArray.size false) a w.drew := by
  simp only [Region.lexTailB, Bool.and_eq_true, decide_eq_true_eq] at hB
  obtain ⟨⟨⟨⟨hsel, hn⟩, hs⟩, hc⟩, hlex⟩ := hB
  have hn' : n < l.length := by simpa using hn
  have htl : (l.take n).length = n := by simp; omega
  have hdl : (l.drop n).length = l.toArray.size - n := by simp
  have inv0 : HeadInv .any l.toArray n (Array.replicate l.toArray.size false) :=
    ⟨by simp, fun j oj _ hl => (by rw [getD_replicate_false] at hl; cases hl), fun t _ ht => getD_in (by simpa using ht) (getD_replicate_false _ _)⟩
  have bw : Below w.heap.size w w.drew := (Below.refl _ _).drew
  have H := fun W (hW : Below w.heap.size w W) vs hvs => wpAnyV_lexE (md := .any) (C := extC W) (mk := mk) (Φ := Φ) (vs := vs) (g := l.toArray.size - n) hsel hs hc hn (l.take n) 0 _ a (fun j hj => by
    have hj' : j < n := by rw [htl] at hj; exact hj
    simp [hj']) (by simpa using htl) inv0 (fun j hj => absurd hj (by omega)) (by rw [htl]; exact hlex) (h W hW vs hvs)
  have := wpAny_of_VE (Q' := Q) (w0 := w) (n := n) (g := l.toArray.size - n) (L := fun vs listed' a' => Region.seqB .any l.toArray (l.toArray.size - n) n listed' = true ∧ (∀ j, j < n → listed'.getD j false = true) ∧
      ∀ w1, Below w.heap.size w w1 → (∀ i, i < n → mk i = true → Φ i (vs i) w1) → (∀ i j, i < n → j < n → i ≠ j → mk i = true → mk j = true → ∀ b, b ∈ nob (vs i) → b ∉ nob (vs j)) → wpList P l.toArray Q (l.drop n) a' w1) hp hΦ hSh
    (fun listed a' w1 val hb hf hap hL' => by
      have := wpAny_of_seq (md := .any) (Q' := Q) (l.drop n) n listed a' w1 (fun j => by simp [List.getElem?_drop]) (by rw [hdl]; exact hL'.1) (hL'.2.2 w1 hb (fun i hi hmk => hf i hmk (hL'.2.1 i hi)) (fun i j hi hj hne h1 h2 => hap.2 i j hne h1 h2 (hL'.2.1 i hi) (hL'.2.1 j hj)))
      rwa [hdl] at this)
    (l.take n).length (Array.replicate l.toArray.size false) a w.drew vs0 hv0 bw (fun i _ hl => by rw [getD_replicate_false] at hl; cases hl) ⟨fun i _ hl => (by rw [getD_replicate_false] at hl; cases hl), fun i j _ _ _ hl => (by rw [getD_replicate_false] at hl; cases hl)⟩ (fun W hW vs hvs _ => H W hW vs hvs)
  rw [htl, show n + (l.toArray.size - n) = l.toArray.size by omega] at this
  exact this

/-- A region of quiet operations and makers ahead of a tail in forced order. -/
theorem wp_region_makersE {id : Nat} {Q : Exit → Act → World → Prop} {a : Act} {w : World} {l : List Oper} (n : Nat) (mk : Nat → Bool) (Φ : Nat → Value → World → Prop) (Sh : Nat → Value → Prop) (vs0 : Nat → Value) (hp : Probe P) (hm : P.follows .mixedOrders = true) (hB : Region.lexTailB .any l.toArray n = true)
    (hΦ : ∀ i v w w', Φ i v w → Below w.heap.size w w' → Φ i v w') (hSh : ∀ i v w, mk i = true → Φ i v w → Sh i v) (hv0 : ∀ i, mk i = true → Sh i (vs0 i))
    (h : ∀ W, Below w.heap.size w W → ∀ vs, (∀ i, mk i = true → Sh i (vs i)) → wpVE P l.toArray (extC W) mk Φ vs (fun a' => ∀ w1, Below w.heap.size w w1 → (∀ i, i < n → mk i = true → Φ i (vs i) w1) → (∀ i j, i < n → j < n → i ≠ j → mk i = true → mk j = true → ∀ b, b ∈ nob (vs i) → b ∉ nob (vs j)) → wpList P l.toArray Q (l.drop n) a' w1) 0 (l.take n) a) :
    (Code.region id l.toArray true).wp P Q a w := wp_region_any hm (wpAny_makersE n mk Φ Sh vs0 hp hB hΦ hSh hv0 h)

/-- A stretch of quiet operations. -/
theorem wpV_quietE {C : World → Prop} {vs : Nat → Value} {Q : Act → Prop} (hC : ∃ w, C w) : ∀ (m k : Nat) (l : List Oper) (a : Act), (∀ j, j < m → mk (k + j) = false) → m ≤ l.length →
    wpQuiet P ops C (fun a' => wpVE P ops C mk Φ vs Q (k + m) (l.drop m) a') (l.take m) a → wpVE P ops C mk Φ vs Q k l a
  | 0, k, l, a, _, _, h => by simpa [wpQuiet] using h
  | m + 1, k, [], a, _, hl, _ => by simp at hl
  | m + 1, k, o :: rest, a, hk, hl, h => by
    simp only [List.take_succ_cons, List.drop_succ_cons] at h
    have hk' : ∀ j, j < m → mk (k + 1 + j) = false := fun j h1 => by rw [show k + 1 + j = k + (j + 1) by omega]; exact hk (j + 1) (by omega)
    have hl' : m ≤ rest.length := by simpa using hl
    have go : ∀ a', wpQuiet P ops C (fun a' => wpVE P ops C mk Φ vs Q (k + (m + 1)) (rest.drop m) a') (rest.take m) a' → wpVE P ops C mk Φ vs Q (k + 1) rest a' := fun a' h' =>
      wpV_quietE hC m (k + 1) rest a' hk' hl' (by rw [show k + 1 + m = k + (m + 1) by omega]; exact h')
    unfold wpQuiet at h
    unfold wpVE
    by_cases hw : Region.wanted o (yielded ops a.tmps) = true
    · rw [if_pos hw] at h
      obtain ⟨v, h1, h2⟩ := h
      exact ⟨v, .inr (.inl ⟨hk 0 (by omega), hw, h1⟩), go _ h2⟩
    · rw [if_neg hw] at h
      exact ⟨undef, .inr (.inr ⟨hk 0 (by omega), by simpa using hw, rfl⟩), go _ h⟩
/-- A maker. -/
theorem wpV_makeE {C : World → Prop} {vs : Nat → Value} {Q : Act → Prop} {k : Nat} {o : Oper} {rest : List Oper} {a : Act} (hk : mk k = true) (hw : Region.wanted o (yielded ops a.tmps) = true)
    (hm : ∀ w, C w → depsOkE mk Φ vs o w → makesAtE P o a w (Φ k)) (h : wpVE P ops C mk Φ vs Q (k + 1) rest (a.put o.dst (vs k))) : wpVE P ops C mk Φ vs Q k (o :: rest) a :=
  ⟨vs k, .inl ⟨hk, hw, hm, rfl⟩, h⟩
theorem wpV_make_E {C : World → Prop} {vs : Nat → Value} {Q : Act → Prop} {k : Nat} {o : Oper} {rest : List Oper} {a : Act} (hk : mk k = true) (hw : o.guard = none)
    (hm : ∀ w, C w → depsOkE mk Φ vs o w → makesAtE P o a w (Φ k)) (h : wpVE P ops C mk Φ vs Q (k + 1) rest (a.put o.dst (vs k))) : wpVE P ops C mk Φ vs Q k (o :: rest) a := wpV_makeE hk (by simp [Region.wanted, hw]) hm h
theorem wpV_nilE {C : World → Prop} {vs : Nat → Value} {Q : Act → Prop} {k : Nat} {a : Act} (h : Q a) : wpVE P ops C mk Φ vs Q k [] a := h
end

end Go.Proofs.Ytlcpbdbdiahmjaa



/- Kinds of elements: inverses, zero divisors, nilpotents, idempotents, by both sides. -/
namespace Go.Proofs.Ytlcpbdbdiahmjaa
open Go.RowKit
set_option maxRecDepth 100000

def unitB (m : Nat) (P : Nat → Nat) (e a : Nat) : Bool := decide (0 ≤ invN m P e a)
def divB (m : Nat) (P : Nat → Nat) (a : Nat) : Bool := hasB ((rowL m P a).drop 1) 0
def nilB (m : Nat) (P : Nat → Nat) (e a : Nat) : Bool := decide (powF m P 63 e a m = 0)
def idemB (m : Nat) (P : Nat → Nat) (a : Nat) : Bool := decide (P (a * m + a) = a)
/-- An element is of a kind. -/
def kindB (m : Nat) (P : Nat → Nat) (e k a : Nat) : Bool := if k = 0 then unitB m P e a else if k = 1 then divB m P a else if k = 2 then nilB m P e a else idemB m P a
theorem mem_drop_row {m : Nat} {P : Nat → Nat} {a : Nat} : (0 : Int) ∈ (rowL m P a).drop 1 ↔ ∃ c, 1 ≤ c ∧ c < m ∧ P (a * m + c) = 0 := by
  rw [List.mem_iff_getElem?]
  constructor
  · rintro ⟨i, hi⟩
    rw [List.getElem?_drop] at hi
    have hl : 1 + i < m := by
      rcases Nat.lt_or_ge (1 + i) m with h1 | h1
      · exact h1
      · rw [List.getElem?_eq_none (by rw [rowL_length]; exact h1)] at hi; cases hi
    have := rowL_get (T := P) (a := a) hl
    rw [hi] at this
    simp at this
    exact ⟨1 + i, by omega, hl, by omega⟩
  · rintro ⟨c, h1, h2, h3⟩
    refine ⟨c - 1, ?_⟩
    rw [List.getElem?_drop, show 1 + (c - 1) = c by omega]
    have := rowL_get (T := P) (a := a) h2
    rw [List.getElem?_eq_getElem (by rw [rowL_length]; exact h2)] at this ⊢
    rw [h3] at this
    simpa using this
theorem divB_iff {m : Nat} {P : Nat → Nat} {a : Nat} : divB m P a = true ↔ ∃ c, 1 ≤ c ∧ c < m ∧ P (a * m + c) = 0 := by
  unfold divB hasB
  rw [decide_eq_true_eq]
  exact mem_drop_row

set_option maxHeartbeats 1000000 in
theorem inverse_any (a : Nat) (m e b1 o1 la ca b2 o2 lb cb : Nat) (S P : Nat → Nat) (w : World) (hr : RingAt w m e b1 o1 la ca b2 o2 lb cb S P) (ha : a < m) :
    Calls Try.prog 109 #[.agg #[.int .i64 m, .int .i64 e, .slice (some ⟨b1, o1, none⟩) la ca, .slice (some ⟨b2, o2, none⟩) lb cb], .int .i64 a] w fun e' w' => e' = .returned (.int .i64 (invN m P e a)) ∧ Below w.heap.size w w' := by
  obtain ⟨c0, c1, c2, c3, hs⟩ := box4_new w (.int .i64 m) (.int .i64 e) (.slice (some ⟨b1, o1, none⟩) la ca) (.slice (some ⟨b2, o2, none⟩) lb cb) 25
  have b0 : Below w.heap.size w (w.alloc (.cells #[.int .i64 m, .int .i64 e, .slice (some ⟨b1, o1, none⟩) la ca, .slice (some ⟨b2, o2, none⟩) lb cb] 25)) := (Below.refl _ _).alloc (Nat.le_refl _) _
  obtain ⟨W, hW⟩ : ∃ W, w.alloc (.cells #[.int .i64 m, .int .i64 e, .slice (some ⟨b1, o1, none⟩) la ca, .slice (some ⟨b2, o2, none⟩) lb cb] 25) = W := ⟨_, rfl⟩
  rw [hW] at c0 c1 c2 c3 hs b0
  have R0 := Lib.hid (hr.next b0)
  have B0 := Lib.hid b0
  have HW := Lib.hid hW
  have HL := Lib.hid hr.hlb
  have hm := hr.hm
  have hm' := hr.hm'
  have hcb := hr.hcb
  clear hr b0 hW
  go_enter Try.func109, Try.ntmps109
  go_wp2_with (fail)
  rw [HW.out]
  refine wp_region_ext (by kernel_rfl) (by kernel_rfl) ?_
  repeat (go_big_quiet_step ((first
    | (go_at_call 108; with_reducible refine calls_ext (row_any m _ _ _ _ _ _ _ b2 o2 lb cb a _ hm hm' ha HL.out hcb))
    | (go_at_call 120; with_reducible refine calls_ext ((index_any _ _ _ (rowL m P a) _ _ _ ((R0.out.ext _).tp.row ha) (by omega)).mono fun e1 w1 h => ⟨h.1, h.2 ▸ Below.refl _ _⟩)))))
  refine wpQuiet_nil ?_
  intro w2 hb2
  go_wp2
  go_ret
  exact ⟨rfl, B0.out.trans (hb2.mono (by omega))⟩

set_option maxHeartbeats 1000000 in
theorem isUnit_any (a : Nat) (m e b1 o1 la ca b2 o2 lb cb : Nat) (S P : Nat → Nat) (w : World) (hr : RingAt w m e b1 o1 la ca b2 o2 lb cb S P) (ha : a < m) :
    Calls Try.prog 136 #[.agg #[.int .i64 m, .int .i64 e, .slice (some ⟨b1, o1, none⟩) la ca, .slice (some ⟨b2, o2, none⟩) lb cb], .int .i64 a] w fun e' w' => e' = .returned (.bool (unitB m P e a)) ∧ Below w.heap.size w w' := by
  have R0 := Lib.hid (hr.next ((Below.refl _ _).alloc (Nat.le_refl _) (.cells #[.int .i64 m, .int .i64 e, .slice (some ⟨b1, o1, none⟩) la ca, .slice (some ⟨b2, o2, none⟩) lb cb] 25)))
  clear hr
  unfold unitB
  go_enter Try.func136, Try.ntmps136
  go_wp2_with (go_at_call 109; (with_reducible refine (inverse_any a m e b1 o1 la ca b2 o2 lb cb S P _ R0.out ha).mono ?_); rintro e1 w1 ⟨rfl, hb1⟩)
  go_ret
  exact ⟨rfl, ((Below.refl _ _).alloc (Nat.le_refl _) _).trans (hb1.mono (by simp))⟩

set_option maxHeartbeats 1000000 in
theorem isNilpotent_any (a : Nat) (m e b1 o1 la ca b2 o2 lb cb : Nat) (S P : Nat → Nat) (w : World) (hr : RingAt w m e b1 o1 la ca b2 o2 lb cb S P) (ha : a < m) :
    Calls Try.prog 138 #[.agg #[.int .i64 m, .int .i64 e, .slice (some ⟨b1, o1, none⟩) la ca, .slice (some ⟨b2, o2, none⟩) lb cb], .int .i64 a] w fun e' w' => e' = .returned (.bool (nilB m P e a)) ∧ Below w.heap.size w w' := by
  have R0 := Lib.hid (hr.next ((Below.refl _ _).alloc (Nat.le_refl _) (.cells #[.int .i64 m, .int .i64 e, .slice (some ⟨b1, o1, none⟩) la ca, .slice (some ⟨b2, o2, none⟩) lb cb] 25)))
  have hm' := hr.hm'
  clear hr
  unfold nilB
  by_cases h : powF m P 63 e a m = 0
  · rw [decide_eq_true h]
    have tt : (((powF m P 63 e a m : Nat) : Int) == 0) = true := by rw [beq_iff_eq]; omega
    clear h
    go_enter Try.func138, Try.ntmps138
    go_wp2_with (go_at_call 79; (with_reducible refine (power_any m a m e b1 o1 la ca b2 o2 lb cb S P _ R0.out ha (by omega)).mono ?_); rintro e1 w1 ⟨rfl, hb1⟩)
    go_ret
    exact ⟨rfl, ((Below.refl _ _).alloc (Nat.le_refl _) _).trans (hb1.mono (by simp))⟩
  · rw [decide_eq_false h]
    have tt : (((powF m P 63 e a m : Nat) : Int) == 0) = false := by rw [beq_eq_false_iff_ne]; omega
    clear h
    go_enter Try.func138, Try.ntmps138
    go_wp2_with (go_at_call 79; (with_reducible refine (power_any m a m e b1 o1 la ca b2 o2 lb cb S P _ R0.out ha (by omega)).mono ?_); rintro e1 w1 ⟨rfl, hb1⟩)
    go_ret
    exact ⟨rfl, ((Below.refl _ _).alloc (Nat.le_refl _) _).trans (hb1.mono (by simp))⟩

set_option maxHeartbeats 1000000 in
theorem isIdempotent_any (a : Nat) (m e b1 o1 la ca b2 o2 lb cb : Nat) (S P : Nat → Nat) (w : World) (hr : RingAt w m e b1 o1 la ca b2 o2 lb cb S P) (ha : a < m) :
    Calls Try.prog 139 #[.agg #[.int .i64 m, .int .i64 e, .slice (some ⟨b1, o1, none⟩) la ca, .slice (some ⟨b2, o2, none⟩) lb cb], .int .i64 a] w fun e' w' => e' = .returned (.bool (idemB m P a)) ∧ Below w.heap.size w w' := by
  have R0 := Lib.hid (hr.next ((Below.refl _ _).alloc (Nat.le_refl _) (.cells #[.int .i64 m, .int .i64 e, .slice (some ⟨b1, o1, none⟩) la ca, .slice (some ⟨b2, o2, none⟩) lb cb] 25)))
  clear hr
  unfold idemB
  by_cases h : P (a * m + a) = a
  · rw [decide_eq_true h]
    have tt : (((P (a * m + a) : Nat) : Int) == (a : Int)) = true := by rw [beq_iff_eq]; omega
    clear h
    go_enter Try.func139, Try.ntmps139
    go_wp2_with (go_at_call 78; (with_reducible refine (product_any a a m e b1 o1 la ca b2 o2 lb cb S P _ R0.out ha ha).mono ?_); rintro e1 w1 ⟨rfl, hb1⟩)
    go_ret
    exact ⟨rfl, ((Below.refl _ _).alloc (Nat.le_refl _) _).trans (hb1.mono (by simp))⟩
  · rw [decide_eq_false h]
    have tt : (((P (a * m + a) : Nat) : Int) == (a : Int)) = false := by rw [beq_eq_false_iff_ne]; omega
    clear h
    go_enter Try.func139, Try.ntmps139
    go_wp2_with (go_at_call 78; (with_reducible refine (product_any a a m e b1 o1 la ca b2 o2 lb cb S P _ R0.out ha ha).mono ?_); rintro e1 w1 ⟨rfl, hb1⟩)
    go_ret
    exact ⟨rfl, ((Below.refl _ _).alloc (Nat.le_refl _) _).trans (hb1.mono (by simp))⟩

theorem ints_drop {w : World} {B n b off : Nat} {xs : List Int} (h : Ints w B (some ⟨b, off, none⟩) n xs) (k : Nat) : Ints w B (some ⟨b, off + k, none⟩) (n - k) (xs.drop k) :=
  ⟨by simp [h.1], fun hn => by
    obtain ⟨b', off', e, hb, hc⟩ := h.2 (by omega)
    simp only [Option.some.injEq, Addr.mk.injEq, and_true] at e
    obtain ⟨rfl, rfl⟩ := e
    exact ⟨b, off + k, rfl, hb, fun j x hx => by
      rw [List.getElem?_drop] at hx
      have := hc (k + j) x hx
      rwa [← Nat.add_assoc] at this⟩⟩

theorem ints_nil {w : World} {B : Nat} {C : Option Addr} : Ints w B C 0 [] := ⟨rfl, fun h => absurd h (by omega)⟩
theorem ints_dropL {w : World} {B n b off : Nat} {xs L : List Int} (h : Ints w B (some ⟨b, off, none⟩) n xs) (hL : xs.drop 1 = L) : Ints w B (some ⟨b, off + 1, none⟩) (n - 1) L := hL ▸ ints_drop h 1

set_option maxHeartbeats 1000000 in
theorem isZeroDivisor_any (a : Nat) (m e b1 o1 la ca b2 o2 lb cb : Nat) (S P : Nat → Nat) (w : World) (hr : RingAt w m e b1 o1 la ca b2 o2 lb cb S P) (ha : a < m) :
    Calls Try.prog 137 #[.agg #[.int .i64 m, .int .i64 e, .slice (some ⟨b1, o1, none⟩) la ca, .slice (some ⟨b2, o2, none⟩) lb cb], .int .i64 a] w fun e' w' => e' = .returned (.bool (divB m P a)) ∧ Below w.heap.size w w' := by
  have R0 := Lib.hid (hr.next ((Below.refl _ _).alloc (Nat.le_refl _) (.cells #[.int .i64 m, .int .i64 e, .slice (some ⟨b1, o1, none⟩) la ca, .slice (some ⟨b2, o2, none⟩) lb cb] 25)))
  have HL := Lib.hid hr.hlb
  have hm := hr.hm
  have hm' := hr.hm'
  have hcb := hr.hcb
  clear hr
  obtain ⟨L, hL⟩ : ∃ L, (rowL m P a).drop 1 = L := ⟨_, rfl⟩
  have e0 := Lib.hid (show divB m P a = hasB L 0 by subst hL; rfl)
  have Z1 := Lib.hid (show m = 1 → L = [] by
    intro h1
    subst hL
    exact List.drop_eq_nil_of_le (by rw [rowL_length]; omega))
  have HD := Lib.hid hL
  clear hL
  go_enter Try.func137, Try.ntmps137
  go_wp2_with (first
    | (go_at_call 108; (with_reducible refine (row_any m _ _ _ _ _ _ _ b2 o2 lb cb a _ hm hm' ha HL.out hcb).mono ?_); rintro e1 w1 ⟨rfl, hb1⟩; have HR := Lib.hid (ints_dropL ((R0.out.next hb1).tp.row ha) HD.out))
    | (go_at_call 105; (with_reducible refine (contains_any _ _ _ L _ _ _ HR.out (by omega)).mono ?_); rintro e2 w2 ⟨rfl, rfl⟩)
    | (go_at_call 105; (with_reducible refine (contains_any _ _ _ [] _ _ 0 ints_nil (by omega)).mono ?_); rintro e2 w2 ⟨rfl, rfl⟩))
  · go_ret
    exact ⟨ret_bool (by rw [e0.out, Z1.out (by omega)]), ((Below.refl _ _).alloc (Nat.le_refl _) _).trans (hb1.mono (by simp))⟩
  · go_ret
    exact ⟨ret_bool e0.out.symm, ((Below.refl _ _).alloc (Nat.le_refl _) _).trans (hb1.mono (by simp))⟩

end Go.Proofs.Ytlcpbdbdiahmjaa



/- Kinds of elements of the reading side: l3Inverse, l3Divides, l3Is. -/
namespace Go.Proofs.Ytlcpbdbdiahmjaa
open Go.RowKit
set_option maxRecDepth 100000

set_option maxHeartbeats 1000000 in
theorem l3Inverse_any (a : Nat) (m e b1 o1 la ca b2 o2 lb cb : Nat) (S P : Nat → Nat) (w : World) (hr : RingAt w m e b1 o1 la ca b2 o2 lb cb S P) (ha : a < m) :
    Calls Try.prog 50 #[.agg #[.int .i64 m, .int .i64 e, .slice (some ⟨b1, o1, none⟩) la ca, .slice (some ⟨b2, o2, none⟩) lb cb], .int .i64 a] w fun e' w' => e' = .returned (.int .i64 (invN m P e a)) ∧ Below w.heap.size w w' := by
  have hm := hr.hm
  have hm' := hr.hm'
  have HR := Lib.hid hr
  clear hr
  go_enter Try.func50, Try.ntmps50
  go_wp2
  go_loopg [8] m (fun g i wr => ∃ k : Nat, k ≤ m ∧ m ≤ k + g ∧ i = .int .i64 k ∧ Misses (rowL m P a) e k ∧ Below (w.heap.size + 1) (w.alloc (.cells #[.int .i64 m, .int .i64 e, .slice (some ⟨b1, o1, none⟩) la ca, .slice (some ⟨b2, o2, none⟩) lb cb] 25)) wr)
  case atStart => exact ⟨0, Nat.zero_le _, by omega, rfl, fun j hj => absurd hj (by omega), Below.refl _ _⟩
  case round =>
    obtain ⟨k, hk, hg, rfl, hup, hb⟩ := hrel
    have HU := Lib.hid hup
    obtain ⟨d0, d1, d2, d3, hs1⟩ := box4 hb
    have X1 := Lib.hid hb
    have R1 := Lib.hid (HR.out.next (below_of_box hb))
    clear hup hb
    by_cases hlt : k < m
    · by_cases h0 : P (a * m + k) = e
      · have H0 := Lib.hid h0
        have t0 : (((P (a * m + k) : Nat) : Int) == (e : Int)) = true := by rw [beq_iff_eq]; omega
        clear h0
        go_wp2
        refine wp_region_ext (by kernel_rfl) (by kernel_rfl) ?_
        repeat (go_big_quiet_step (((go_at_call 51; ((with_reducible refine calls_ext (l1Mul_any a k m e b1 o1 la ca b2 o2 lb cb S P _ (R1.out.ext _) ha hlt)))))))
        refine wpQuiet_nil ?_
        intro w2 hb2
        have X2 := Lib.hid (X1.out.trans (hb2.mono (by omega)))
        clear hb2
        go_wp2
        go_ret
        refine ⟨ret_int ?_, below_of_box X2.out⟩
        unfold invN
        exact (idx_hit (by rw [rowL_length]; exact hlt) (by rw [rowL_get hlt, H0.out]) HU.out).symm
      · have H0 := Lib.hid h0
        have t0 : (((P (a * m + k) : Nat) : Int) == (e : Int)) = false := by rw [beq_eq_false_iff_ne]; omega
        clear h0
        go_wp2
        refine wp_region_ext (by kernel_rfl) (by kernel_rfl) ?_
        repeat (go_big_quiet_step (((go_at_call 51; ((with_reducible refine calls_ext (l1Mul_any a k m e b1 o1 la ca b2 o2 lb cb S P _ (R1.out.ext _) ha hlt)))))))
        refine wpQuiet_nil ?_
        intro w2 hb2
        have X2 := Lib.hid (X1.out.trans (hb2.mono (by omega)))
        clear hb2
        go_wp2
        go_roundg (m - (k + 1))
        case measure => omega
        case rel => exact ⟨k + 1, by omega, by omega, by go_num, forall_succ HU.out (by rw [rowL_get hlt]; exact fun h => H0.out (by omega)), X2.out⟩
    · go_wp2
      go_ret
      refine ⟨ret_int ?_, below_of_box X1.out⟩
      unfold invN
      exact (idx_miss fun j hj => HU.out j (by rw [rowL_length] at hj; omega)).symm

set_option maxHeartbeats 1000000 in
theorem l3Divides_any (a : Nat) (m e b1 o1 la ca b2 o2 lb cb : Nat) (S P : Nat → Nat) (w : World) (hr : RingAt w m e b1 o1 la ca b2 o2 lb cb S P) (ha : a < m) :
    Calls Try.prog 126 #[.agg #[.int .i64 m, .int .i64 e, .slice (some ⟨b1, o1, none⟩) la ca, .slice (some ⟨b2, o2, none⟩) lb cb], .int .i64 a] w fun e' w' => e' = .returned (.bool (divB m P a)) ∧ Below w.heap.size w w' := by
  have hm := hr.hm
  have hm' := hr.hm'
  have HR := Lib.hid hr
  clear hr
  go_enter Try.func126, Try.ntmps126
  go_wp2
  go_loopg [5] m (fun g i wr => ∃ k : Nat, 1 ≤ k ∧ k ≤ m ∧ m ≤ k + g ∧ i = .int .i64 k ∧ (∀ c, 1 ≤ c → c < k → P (a * m + c) ≠ 0) ∧ Below (w.heap.size + 1) (w.alloc (.cells #[.int .i64 m, .int .i64 e, .slice (some ⟨b1, o1, none⟩) la ca, .slice (some ⟨b2, o2, none⟩) lb cb] 25)) wr)
  case atStart => exact ⟨1, Nat.le_refl _, hm, by omega, rfl, fun c h1 h2 => absurd h1 (by omega), Below.refl _ _⟩
  case round =>
    obtain ⟨k, hk1, hk, hg, rfl, hup, hb⟩ := hrel
    have HU := Lib.hid hup
    obtain ⟨d0, d1, d2, d3, hs1⟩ := box4 hb
    have X1 := Lib.hid hb
    have R1 := Lib.hid (HR.out.next (below_of_box hb))
    clear hup hb
    by_cases hlt : k < m
    · by_cases h0 : P (a * m + k) = 0
      · have H0 := Lib.hid h0
        have t0 : (((P (a * m + k) : Nat) : Int) == 0) = true := by rw [beq_iff_eq]; omega
        clear h0
        go_wp2_with (go_at_call 51; ((with_reducible refine (l1Mul_any a k m e b1 o1 la ca b2 o2 lb cb S P _ R1.out ha hlt).mono ?_); rintro e1 w1 ⟨rfl, hb1⟩; have X2 := Lib.hid (X1.out.trans (hb1.mono (by omega))); clear hb1))
        go_ret
        exact ⟨ret_bool (divB_iff.2 ⟨k, hk1, hlt, H0.out⟩).symm, below_of_box X2.out⟩
      · have H0 := Lib.hid h0
        have t0 : (((P (a * m + k) : Nat) : Int) == 0) = false := by rw [beq_eq_false_iff_ne]; omega
        clear h0
        go_wp2_with (go_at_call 51; ((with_reducible refine (l1Mul_any a k m e b1 o1 la ca b2 o2 lb cb S P _ R1.out ha hlt).mono ?_); rintro e1 w1 ⟨rfl, hb1⟩; have X2 := Lib.hid (X1.out.trans (hb1.mono (by omega))); clear hb1))
        go_roundg (m - (k + 1))
        case measure => omega
        case rel => exact ⟨k + 1, by omega, by omega, by omega, by go_num, fun c h1 h2 => (by
          rcases Nat.lt_succ_iff_lt_or_eq.1 h2 with h3 | rfl
          · exact HU.out c h1 h3
          · exact H0.out), X2.out⟩
    · go_wp2
      go_ret
      refine ⟨ret_bool ?_, below_of_box X1.out⟩
      cases hd : divB m P a
      · rfl
      · obtain ⟨c, h1, h2, h3⟩ := divB_iff.1 hd
        exact absurd h3 (HU.out c h1 (by omega))

set_option maxHeartbeats 2000000 in
theorem l3Is_any (a k : Nat) (m e b1 o1 la ca b2 o2 lb cb : Nat) (S P : Nat → Nat) (w : World) (hr : RingAt w m e b1 o1 la ca b2 o2 lb cb S P) (ha : a < m) (hk : k ≤ 3) :
    Calls Try.prog 121 #[.agg #[.int .i64 m, .int .i64 e, .slice (some ⟨b1, o1, none⟩) la ca, .slice (some ⟨b2, o2, none⟩) lb cb], .int .i64 a, .int .i64 k] w fun e' w' => e' = .returned (.bool (kindB m P e k a)) ∧ Below w.heap.size w w' := by
  have R0 := Lib.hid (hr.next ((Below.refl _ _).alloc (Nat.le_refl _) (.cells #[.int .i64 m, .int .i64 e, .slice (some ⟨b1, o1, none⟩) la ca, .slice (some ⟨b2, o2, none⟩) lb cb] 25)))
  have hm' := hr.hm'
  clear hr
  rcases (show k = 0 ∨ k = 1 ∨ k = 2 ∨ k = 3 by omega) with rfl | rfl | rfl | rfl
  · rw [show kindB m P e 0 a = decide (0 ≤ invN m P e a) from rfl]
    go_enter Try.func121, Try.ntmps121
    go_wp2_with (go_at_call 50; (with_reducible refine (l3Inverse_any a m e b1 o1 la ca b2 o2 lb cb S P _ R0.out ha).mono ?_); rintro e1 w1 ⟨rfl, hb1⟩)
    go_ret
    exact ⟨rfl, ((Below.refl _ _).alloc (Nat.le_refl _) _).trans (hb1.mono (by simp))⟩
  · rw [show kindB m P e 1 a = divB m P a from rfl]
    go_enter Try.func121, Try.ntmps121
    go_wp2_with (go_at_call 126; (with_reducible refine (l3Divides_any a m e b1 o1 la ca b2 o2 lb cb S P _ R0.out ha).mono ?_); rintro e1 w1 ⟨rfl, hb1⟩)
    go_ret
    exact ⟨rfl, ((Below.refl _ _).alloc (Nat.le_refl _) _).trans (hb1.mono (by simp))⟩
  · rw [show kindB m P e 2 a = decide (powF m P 63 e a m = 0) from rfl]
    by_cases h : powF m P 63 e a m = 0
    · rw [decide_eq_true h]
      have tt : (((powF m P 63 e a m : Nat) : Int) == 0) = true := by rw [beq_iff_eq]; omega
      clear h
      go_enter Try.func121, Try.ntmps121
      go_wp2_with (go_at_call 127; (with_reducible refine (l1Power_any m a m e b1 o1 la ca b2 o2 lb cb S P _ R0.out ha (by omega)).mono ?_); rintro e1 w1 ⟨rfl, hb1⟩)
      go_ret
      exact ⟨rfl, ((Below.refl _ _).alloc (Nat.le_refl _) _).trans (hb1.mono (by simp))⟩
    · rw [decide_eq_false h]
      have tt : (((powF m P 63 e a m : Nat) : Int) == 0) = false := by rw [beq_eq_false_iff_ne]; omega
      clear h
      go_enter Try.func121, Try.ntmps121
      go_wp2_with (go_at_call 127; (with_reducible refine (l1Power_any m a m e b1 o1 la ca b2 o2 lb cb S P _ R0.out ha (by omega)).mono ?_); rintro e1 w1 ⟨rfl, hb1⟩)
      go_ret
      exact ⟨rfl, ((Below.refl _ _).alloc (Nat.le_refl _) _).trans (hb1.mono (by simp))⟩
  · rw [show kindB m P e 3 a = decide (P (a * m + a) = a) from rfl]
    by_cases h : P (a * m + a) = a
    · rw [decide_eq_true h]
      have tt : (((P (a * m + a) : Nat) : Int) == (a : Int)) = true := by rw [beq_iff_eq]; omega
      clear h
      go_enter Try.func121, Try.ntmps121
      go_wp2_with (go_at_call 51; (with_reducible refine (l1Mul_any a a m e b1 o1 la ca b2 o2 lb cb S P _ R0.out ha ha).mono ?_); rintro e1 w1 ⟨rfl, hb1⟩)
      go_ret
      exact ⟨rfl, ((Below.refl _ _).alloc (Nat.le_refl _) _).trans (hb1.mono (by simp))⟩
    · rw [decide_eq_false h]
      have tt : (((P (a * m + a) : Nat) : Int) == (a : Int)) = false := by rw [beq_eq_false_iff_ne]; omega
      clear h
      go_enter Try.func121, Try.ntmps121
      go_wp2_with (go_at_call 51; (with_reducible refine (l1Mul_any a a m e b1 o1 la ca b2 o2 lb cb S P _ R0.out ha ha).mono ?_); rintro e1 w1 ⟨rfl, hb1⟩)
      go_ret
      exact ⟨rfl, ((Below.refl _ _).alloc (Nat.le_refl _) _).trans (hb1.mono (by simp))⟩

end Go.Proofs.Ytlcpbdbdiahmjaa



/- InverseOf, SumOrderOf and UnitOrderOf, of both sides. -/
namespace Go.Proofs.Ytlcpbdbdiahmjaa
open Go.RowKit
set_option maxRecDepth 100000

noncomputable def invV (n o : Int) (X Y : List Int) (a : Int) : Int := ifV (validB n o X Y = true ∧ inB n a = true) (invN n.toNat (tabOf Y) o.toNat a.toNat)
theorem invV_no {n o a : Int} {X Y : List Int} (h : ¬ (validB n o X Y = true ∧ inB n a = true)) : invV n o X Y a = -1 := ifV_no h
theorem invV_yes {m e a : Nat} {X Y : List Int} (h : validB m e X Y = true) (ha : inB m a = true) : invV m e X Y a = invN m (tabOf Y) e a := ifV_yes ⟨h, ha⟩
noncomputable def ordV (n o : Int) (X Y : List Int) (a : Int) : Int := ifV (validB n o X Y = true ∧ inB n a = true) (ordN n.toNat (tabOf X) a.toNat : Nat)
theorem ordV_no {n o a : Int} {X Y : List Int} (h : ¬ (validB n o X Y = true ∧ inB n a = true)) : ordV n o X Y a = -1 := ifV_no h
theorem ordV_yes {m e a : Nat} {X Y : List Int} (h : validB m e X Y = true) (ha : inB m a = true) : ordV m e X Y a = (ordN m (tabOf X) a : Nat) := ifV_yes ⟨h, ha⟩
noncomputable def uordV (n o : Int) (X Y : List Int) (a : Int) : Int := ifV (0 ≤ invV n o X Y a) (ordZ n.toNat (tabOf Y) o.toNat a.toNat : Nat)
theorem uordV_no {n o a : Int} {X Y : List Int} (h : ¬ 0 ≤ invV n o X Y a) : uordV n o X Y a = -1 := ifV_no h
theorem uordV_yes {m e a : Nat} {X Y : List Int} (h : 0 ≤ invV m e X Y a) : uordV m e X Y a = (ordZ m (tabOf Y) e a : Nat) := ifV_yes h

set_option maxHeartbeats 2000000 in
theorem inv_any (n o : Int) (A B : Option Addr) (la ca lb cb : Nat) (X Y : List Int) (a : Int) (w : World) (hX : Ints w w.heap.size A la X) (hY : Ints w w.heap.size B lb Y) (hla : la ≤ 9223372036854775807) (hlb : lb ≤ 9223372036854775807) (hca : la ≤ ca) (hcb : lb ≤ cb) :
    Calls Try.prog 80 #[.agg #[.int .i64 n, .int .i64 o, .slice A la ca, .slice B lb cb], .int .i64 a] w fun e' w' => e' = .returned (.int .i64 (invV n o X Y a)) ∧ Below w.heap.size w w' := by
  cases hv : validB n o X Y
  · have hz := Lib.hid (invV_no (n := n) (o := o) (X := X) (Y := Y) (a := a) (fun g => by have := g.1; rw [hv] at this; cases this))
    obtain ⟨c0, c1, c2, c3, hs⟩ := box4_new w (.int .i64 n) (.int .i64 o) (.slice A la ca) (.slice B lb cb) 25
    obtain ⟨W, hW⟩ : ∃ W, w.alloc (.cells #[.int .i64 n, .int .i64 o, .slice A la ca, .slice B lb cb] 25) = W := ⟨_, rfl⟩
    have HB := Lib.hid (show Below w.heap.size w W by subst hW; exact (Below.refl w.heap.size w).alloc (Nat.le_refl _) _)
    have H0X := Lib.hid (hX.next HB.out)
    have H0Y := Lib.hid (hY.next HB.out)
    rw [hW] at c0 c1 c2 c3 hs
    have HW := Lib.hid hW
    clear hW hX hY
    go_enter Try.func80, Try.ntmps80
    go_wp2_with (fail)
    rw [HW.out]
    have X0 := HB
    go_wp2_with (first
      | (go_at_call 71; ((with_reducible refine (valid_any _ _ _ _ _ _ _ _ X Y _ H0X.out H0Y.out hla hlb hca hcb).mono ?_); rintro e1 w1 ⟨rfl, hb1⟩; obtain ⟨d0, d1, d2, d3, hs1⟩ := box4_next hb1 (by omega) c0 c1 c2 c3; have X1 := Lib.hid (X0.out.trans (hb1.mono (by omega))); clear hb1)))
    go_ret
    exact ⟨ret_int hz.out.symm, X1.out⟩
  · cases ha : inB n a
    · have hz := Lib.hid (invV_no (n := n) (o := o) (X := X) (Y := Y) (a := a) (fun g => by have := g.2; simp [ha] at this))
      obtain ⟨c0, c1, c2, c3, hs⟩ := box4_new w (.int .i64 n) (.int .i64 o) (.slice A la ca) (.slice B lb cb) 25
      obtain ⟨W, hW⟩ : ∃ W, w.alloc (.cells #[.int .i64 n, .int .i64 o, .slice A la ca, .slice B lb cb] 25) = W := ⟨_, rfl⟩
      have HB := Lib.hid (show Below w.heap.size w W by subst hW; exact (Below.refl w.heap.size w).alloc (Nat.le_refl _) _)
      have H0X := Lib.hid (hX.next HB.out)
      have H0Y := Lib.hid (hY.next HB.out)
      rw [hW] at c0 c1 c2 c3 hs
      have HW := Lib.hid hW
      clear hW hX hY
      go_enter Try.func80, Try.ntmps80
      go_wp2_with (fail)
      rw [HW.out]
      have X0 := HB
      go_wp2_with (first
        | (go_at_call 71; ((with_reducible refine (valid_any _ _ _ _ _ _ _ _ X Y _ H0X.out H0Y.out hla hlb hca hcb).mono ?_); rintro e1 w1 ⟨rfl, hb1⟩; obtain ⟨d0, d1, d2, d3, hs1⟩ := box4_next hb1 (by omega) c0 c1 c2 c3; have X1 := Lib.hid (X0.out.trans (hb1.mono (by omega))); clear hb1))
        | (go_at_call 72; ((with_reducible refine (has_any _ _ a _ _ _ _ _ _ _).mono ?_); rintro e2 w2 ⟨rfl, hb2⟩; obtain ⟨f0, f1, f2, f3, hs2⟩ := box4_next hb2 (by omega) d0 d1 d2 d3; have X2 := Lib.hid (X1.out.trans (hb2.mono (by omega))); clear hb2)))
      go_ret
      exact ⟨ret_int hz.out.symm, X2.out⟩
    · obtain ⟨m, e, b1, o1, b2, o2, rfl, rfl, rfl, rfl, hr, ⟨hop, _, hneg, _⟩, _, _, _, _⟩ := valid_data hv hX hY hca hcb
      have ha' := of_decide_eq_true ha
      obtain ⟨a, rfl⟩ := Int.eq_ofNat_of_zero_le ha'.1
      have la' : a < m := by omega
      have HR := Lib.hid hr
      clear hr hop hneg
      have hz := Lib.hid (invV_yes (hv) (ha))
      obtain ⟨c0, c1, c2, c3, hs⟩ := box4_new w (.int .i64 m) (.int .i64 e) (.slice (some ⟨b1, o1, none⟩) la ca) (.slice (some ⟨b2, o2, none⟩) lb cb) 25
      obtain ⟨W, hW⟩ : ∃ W, w.alloc (.cells #[.int .i64 m, .int .i64 e, .slice (some ⟨b1, o1, none⟩) la ca, .slice (some ⟨b2, o2, none⟩) lb cb] 25) = W := ⟨_, rfl⟩
      have HB := Lib.hid (show Below w.heap.size w W by subst hW; exact (Below.refl w.heap.size w).alloc (Nat.le_refl _) _)
      have H0X := Lib.hid (hX.next HB.out)
      have H0Y := Lib.hid (hY.next HB.out)
      rw [hW] at c0 c1 c2 c3 hs
      have HW := Lib.hid hW
      clear hW hX hY
      have R0 := Lib.hid (HR.out.next HB.out)
      go_enter Try.func80, Try.ntmps80
      go_wp2_with (fail)
      rw [HW.out]
      have X0 := HB
      go_wp2_with (first
        | (go_at_call 71; ((with_reducible refine (valid_any _ _ _ _ _ _ _ _ X Y _ H0X.out H0Y.out hla hlb hca hcb).mono ?_); rintro e1 w1 ⟨rfl, hb1⟩; obtain ⟨d0, d1, d2, d3, hs1⟩ := box4_next hb1 (by omega) c0 c1 c2 c3; have X1 := Lib.hid (X0.out.trans (hb1.mono (by omega))); have R1 := Lib.hid (R0.out.next hb1); clear hb1))
        | (go_at_call 72; ((with_reducible refine (has_any _ _ a _ _ _ _ _ _ _).mono ?_); rintro e2 w2 ⟨rfl, hb2⟩; obtain ⟨f0, f1, f2, f3, hs2⟩ := box4_next hb2 (by omega) d0 d1 d2 d3; have X2 := Lib.hid (X1.out.trans (hb2.mono (by omega))); have R2 := Lib.hid (R1.out.next hb2); clear hb2))
        | (go_at_call 109; ((with_reducible refine (inverse_any a m e b1 o1 la ca b2 o2 lb cb (tabOf X) (tabOf Y) _ R2.out la').mono ?_); rintro e3 w3 ⟨rfl, hb3⟩; obtain ⟨g0, g1, g2, g3, hs3⟩ := box4_next hb3 (by omega) f0 f1 f2 f3; have X3 := Lib.hid (X2.out.trans (hb3.mono (by omega))); clear hb3)))
      go_ret
      exact ⟨ret_int hz.out.symm, X3.out⟩
set_option maxHeartbeats 2000000 in
theorem sinv_any (n o : Int) (A B : Option Addr) (la ca lb cb : Nat) (X Y : List Int) (a : Int) (w : World) (hX : Ints w w.heap.size A la X) (hY : Ints w w.heap.size B lb Y) (hla : la ≤ 9223372036854775807) (hlb : lb ≤ 9223372036854775807) (hca : la ≤ ca) (hcb : lb ≤ cb) :
    Calls Try.prog 111 #[.agg #[.int .i64 n, .int .i64 o, .slice A la ca, .slice B lb cb], .int .i64 a] w fun e' w' => e' = .returned (.int .i64 (invV n o X Y a)) ∧ Below w.heap.size w w' := by
  have HH := Lib.hid (show wrap64 (n - 1) = hiOf n from rfl)
  cases he : elB (hiOf n) [a]
  · have hz := Lib.hid (invV_no (n := n) (o := o) (X := X) (Y := Y) (a := a) (fun g => by have h1 := g.1; have h2 := g.2; simp [hi_valid h1, elB_one] at he; simp [he] at h2))
    have bA : Below w.heap.size w (w.alloc (.cells #[.int .i64 n, .int .i64 o, .slice A la ca, .slice B lb cb] 25)) := (Below.refl w.heap.size w).alloc (Nat.le_refl _) _
    have bB : Below w.heap.size w ((w.alloc (.cells #[.int .i64 n, .int .i64 o, .slice A la ca, .slice B lb cb] 25)).alloc (.cells #[.int .i64 a] 3)) := bA.alloc (by simp) _
    have k0 : Blk ((w.alloc (.cells #[.int .i64 n, .int .i64 o, .slice A la ca, .slice B lb cb] 25)).alloc (.cells #[.int .i64 a] 3)) w.heap.size 25 #[.int .i64 n, .int .i64 o, .slice A la ca, .slice B lb cb] := (Blk.new w _ _).alloc _
    have hE : Ints ((w.alloc (.cells #[.int .i64 n, .int .i64 o, .slice A la ca, .slice B lb cb] 25)).alloc (.cells #[.int .i64 a] 3)) (w.heap.size + 2) (some ⟨w.heap.size + 1, 0, none⟩) 1 [a] := by
      have := ints_one (w := w.alloc (.cells #[.int .i64 n, .int .i64 o, .slice A la ca, .slice B lb cb] 25)) (v := a) (T := 3)
      simpa using this
    obtain ⟨W, hW⟩ : ∃ W, (w.alloc (.cells #[.int .i64 n, .int .i64 o, .slice A la ca, .slice B lb cb] 25)).alloc (.cells #[.int .i64 a] 3) = W := ⟨_, rfl⟩
    rw [hW] at bB k0 hE
    have HB := Lib.hid bB
    have HE := Lib.hid hE
    have hs := k0.lt
    have c0 := k0.cell 0
    have c1 := k0.cell 1
    have c2 := k0.cell 2
    have c3 := k0.cell 3
    simp at c0 c1 c2 c3
    have H0X := Lib.hid (hX.next HB.out)
    have H0Y := Lib.hid (hY.next HB.out)
    have HW := Lib.hid hW
    clear hW hX hY bA bB k0 hE
    go_enter Try.func111, Try.ntmps111
    go_wp2_with (fail)
    rw [HW.out]
    have X0 := HB
    go_wp2_with (first
      | (go_at_call 74; ((with_reducible refine (l1Elements_any _ _ _ _ _ [a] _ _ HH.out HE.out (by omega)).mono ?_); rintro e50 w50 ⟨rfl, rfl⟩)))
    go_ret
    exact ⟨ret_int hz.out.symm, HB.out⟩
  · cases hv : validB n o X Y
    · have hz := Lib.hid (invV_no (n := n) (o := o) (X := X) (Y := Y) (a := a) (fun g => by have := g.1; rw [hv] at this; cases this))
      have bA : Below w.heap.size w (w.alloc (.cells #[.int .i64 n, .int .i64 o, .slice A la ca, .slice B lb cb] 25)) := (Below.refl w.heap.size w).alloc (Nat.le_refl _) _
      have bB : Below w.heap.size w ((w.alloc (.cells #[.int .i64 n, .int .i64 o, .slice A la ca, .slice B lb cb] 25)).alloc (.cells #[.int .i64 a] 3)) := bA.alloc (by simp) _
      have k0 : Blk ((w.alloc (.cells #[.int .i64 n, .int .i64 o, .slice A la ca, .slice B lb cb] 25)).alloc (.cells #[.int .i64 a] 3)) w.heap.size 25 #[.int .i64 n, .int .i64 o, .slice A la ca, .slice B lb cb] := (Blk.new w _ _).alloc _
      have hE : Ints ((w.alloc (.cells #[.int .i64 n, .int .i64 o, .slice A la ca, .slice B lb cb] 25)).alloc (.cells #[.int .i64 a] 3)) (w.heap.size + 2) (some ⟨w.heap.size + 1, 0, none⟩) 1 [a] := by
        have := ints_one (w := w.alloc (.cells #[.int .i64 n, .int .i64 o, .slice A la ca, .slice B lb cb] 25)) (v := a) (T := 3)
        simpa using this
      obtain ⟨W, hW⟩ : ∃ W, (w.alloc (.cells #[.int .i64 n, .int .i64 o, .slice A la ca, .slice B lb cb] 25)).alloc (.cells #[.int .i64 a] 3) = W := ⟨_, rfl⟩
      rw [hW] at bB k0 hE
      have HB := Lib.hid bB
      have HE := Lib.hid hE
      have hs := k0.lt
      have c0 := k0.cell 0
      have c1 := k0.cell 1
      have c2 := k0.cell 2
      have c3 := k0.cell 3
      simp at c0 c1 c2 c3
      have H0X := Lib.hid (hX.next HB.out)
      have H0Y := Lib.hid (hY.next HB.out)
      have HW := Lib.hid hW
      clear hW hX hY bA bB k0 hE
      go_enter Try.func111, Try.ntmps111
      go_wp2_with (fail)
      rw [HW.out]
      have X0 := HB
      go_wp2_with (first
        | (go_at_call 74; ((with_reducible refine (l1Elements_any _ _ _ _ _ [a] _ _ HH.out HE.out (by omega)).mono ?_); rintro e50 w50 ⟨rfl, rfl⟩))
        | (go_at_call 75; ((with_reducible refine (specValid_any _ _ _ _ _ _ _ _ X Y _ H0X.out H0Y.out hla hlb hca hcb).mono ?_); rintro e1 w1 ⟨rfl, hb1⟩; obtain ⟨d0, d1, d2, d3, hs1⟩ := box4_next hb1 (by omega) c0 c1 c2 c3; have X1 := Lib.hid (X0.out.trans (hb1.mono (by omega))); clear hb1)))
      go_ret
      exact ⟨ret_int hz.out.symm, X1.out⟩
    · obtain ⟨m, e, b1, o1, b2, o2, rfl, rfl, rfl, rfl, hr, ⟨hop, _, hneg, _⟩, _, _, _, _⟩ := valid_data hv hX hY hca hcb
      have ha : inB m a = true := by have h9 := he; rw [hi_valid hv, elB_one] at h9; exact h9
      have ha' := of_decide_eq_true ha
      obtain ⟨a, rfl⟩ := Int.eq_ofNat_of_zero_le ha'.1
      have la' : a < m := by omega
      have HR := Lib.hid hr
      clear hr hop hneg
      have hz := Lib.hid (invV_yes (hv) (ha))
      have bA : Below w.heap.size w (w.alloc (.cells #[.int .i64 m, .int .i64 e, .slice (some ⟨b1, o1, none⟩) la ca, .slice (some ⟨b2, o2, none⟩) lb cb] 25)) := (Below.refl w.heap.size w).alloc (Nat.le_refl _) _
      have bB : Below w.heap.size w ((w.alloc (.cells #[.int .i64 m, .int .i64 e, .slice (some ⟨b1, o1, none⟩) la ca, .slice (some ⟨b2, o2, none⟩) lb cb] 25)).alloc (.cells #[.int .i64 a] 3)) := bA.alloc (by simp) _
      have k0 : Blk ((w.alloc (.cells #[.int .i64 m, .int .i64 e, .slice (some ⟨b1, o1, none⟩) la ca, .slice (some ⟨b2, o2, none⟩) lb cb] 25)).alloc (.cells #[.int .i64 a] 3)) w.heap.size 25 #[.int .i64 m, .int .i64 e, .slice (some ⟨b1, o1, none⟩) la ca, .slice (some ⟨b2, o2, none⟩) lb cb] := (Blk.new w _ _).alloc _
      have hE : Ints ((w.alloc (.cells #[.int .i64 m, .int .i64 e, .slice (some ⟨b1, o1, none⟩) la ca, .slice (some ⟨b2, o2, none⟩) lb cb] 25)).alloc (.cells #[.int .i64 a] 3)) (w.heap.size + 2) (some ⟨w.heap.size + 1, 0, none⟩) 1 [a] := by
        have := ints_one (w := w.alloc (.cells #[.int .i64 m, .int .i64 e, .slice (some ⟨b1, o1, none⟩) la ca, .slice (some ⟨b2, o2, none⟩) lb cb] 25)) (v := a) (T := 3)
        simpa using this
      obtain ⟨W, hW⟩ : ∃ W, (w.alloc (.cells #[.int .i64 m, .int .i64 e, .slice (some ⟨b1, o1, none⟩) la ca, .slice (some ⟨b2, o2, none⟩) lb cb] 25)).alloc (.cells #[.int .i64 a] 3) = W := ⟨_, rfl⟩
      rw [hW] at bB k0 hE
      have HB := Lib.hid bB
      have HE := Lib.hid hE
      have hs := k0.lt
      have c0 := k0.cell 0
      have c1 := k0.cell 1
      have c2 := k0.cell 2
      have c3 := k0.cell 3
      simp at c0 c1 c2 c3
      have H0X := Lib.hid (hX.next HB.out)
      have H0Y := Lib.hid (hY.next HB.out)
      have HW := Lib.hid hW
      clear hW hX hY bA bB k0 hE
      have R0 := Lib.hid (HR.out.next HB.out)
      go_enter Try.func111, Try.ntmps111
      go_wp2_with (fail)
      rw [HW.out]
      have X0 := HB
      go_wp2_with (first
        | (go_at_call 74; ((with_reducible refine (l1Elements_any _ _ _ _ _ [(a : Int)] _ _ HH.out HE.out (by omega)).mono ?_); rintro e50 w50 ⟨rfl, rfl⟩))
        | (go_at_call 75; ((with_reducible refine (specValid_any _ _ _ _ _ _ _ _ X Y _ H0X.out H0Y.out hla hlb hca hcb).mono ?_); rintro e1 w1 ⟨rfl, hb1⟩; obtain ⟨d0, d1, d2, d3, hs1⟩ := box4_next hb1 (by omega) c0 c1 c2 c3; have X1 := Lib.hid (X0.out.trans (hb1.mono (by omega))); have R1 := Lib.hid (R0.out.next hb1); clear hb1))
        | (go_at_call 50; ((with_reducible refine (l3Inverse_any a m e b1 o1 la ca b2 o2 lb cb (tabOf X) (tabOf Y) _ R1.out la').mono ?_); rintro e2 w2 ⟨rfl, hb2⟩; obtain ⟨f0, f1, f2, f3, hs2⟩ := box4_next hb2 (by omega) d0 d1 d2 d3; have X2 := Lib.hid (X1.out.trans (hb2.mono (by omega))); clear hb2)))
      go_ret
      exact ⟨ret_int hz.out.symm, X2.out⟩
set_option maxHeartbeats 2000000 in
theorem sord_any (n o : Int) (A B : Option Addr) (la ca lb cb : Nat) (X Y : List Int) (a : Int) (w : World) (hX : Ints w w.heap.size A la X) (hY : Ints w w.heap.size B lb Y) (hla : la ≤ 9223372036854775807) (hlb : lb ≤ 9223372036854775807) (hca : la ≤ ca) (hcb : lb ≤ cb) :
    Calls Try.prog 26 #[.agg #[.int .i64 n, .int .i64 o, .slice A la ca, .slice B lb cb], .int .i64 a] w fun e' w' => e' = .returned (.int .i64 (ordV n o X Y a)) ∧ Below w.heap.size w w' := by
  cases hv : validB n o X Y
  · have hz := Lib.hid (ordV_no (n := n) (o := o) (X := X) (Y := Y) (a := a) (fun g => by have := g.1; rw [hv] at this; cases this))
    obtain ⟨c0, c1, c2, c3, hs⟩ := box4_new w (.int .i64 n) (.int .i64 o) (.slice A la ca) (.slice B lb cb) 25
    obtain ⟨W, hW⟩ : ∃ W, w.alloc (.cells #[.int .i64 n, .int .i64 o, .slice A la ca, .slice B lb cb] 25) = W := ⟨_, rfl⟩
    have HB := Lib.hid (show Below w.heap.size w W by subst hW; exact (Below.refl w.heap.size w).alloc (Nat.le_refl _) _)
    have H0X := Lib.hid (hX.next HB.out)
    have H0Y := Lib.hid (hY.next HB.out)
    rw [hW] at c0 c1 c2 c3 hs
    have HW := Lib.hid hW
    clear hW hX hY
    go_enter Try.func26, Try.ntmps26
    go_wp2_with (fail)
    rw [HW.out]
    have X0 := HB
    go_wp2_with (first
      | (go_at_call 71; ((with_reducible refine (valid_any _ _ _ _ _ _ _ _ X Y _ H0X.out H0Y.out hla hlb hca hcb).mono ?_); rintro e1 w1 ⟨rfl, hb1⟩; obtain ⟨d0, d1, d2, d3, hs1⟩ := box4_next hb1 (by omega) c0 c1 c2 c3; have X1 := Lib.hid (X0.out.trans (hb1.mono (by omega))); clear hb1)))
    go_ret
    exact ⟨ret_int hz.out.symm, X1.out⟩
  · cases ha : inB n a
    · have hz := Lib.hid (ordV_no (n := n) (o := o) (X := X) (Y := Y) (a := a) (fun g => by have := g.2; simp [ha] at this))
      obtain ⟨c0, c1, c2, c3, hs⟩ := box4_new w (.int .i64 n) (.int .i64 o) (.slice A la ca) (.slice B lb cb) 25
      obtain ⟨W, hW⟩ : ∃ W, w.alloc (.cells #[.int .i64 n, .int .i64 o, .slice A la ca, .slice B lb cb] 25) = W := ⟨_, rfl⟩
      have HB := Lib.hid (show Below w.heap.size w W by subst hW; exact (Below.refl w.heap.size w).alloc (Nat.le_refl _) _)
      have H0X := Lib.hid (hX.next HB.out)
      have H0Y := Lib.hid (hY.next HB.out)
      rw [hW] at c0 c1 c2 c3 hs
      have HW := Lib.hid hW
      clear hW hX hY
      go_enter Try.func26, Try.ntmps26
      go_wp2_with (fail)
      rw [HW.out]
      have X0 := HB
      go_wp2_with (first
        | (go_at_call 71; ((with_reducible refine (valid_any _ _ _ _ _ _ _ _ X Y _ H0X.out H0Y.out hla hlb hca hcb).mono ?_); rintro e1 w1 ⟨rfl, hb1⟩; obtain ⟨d0, d1, d2, d3, hs1⟩ := box4_next hb1 (by omega) c0 c1 c2 c3; have X1 := Lib.hid (X0.out.trans (hb1.mono (by omega))); clear hb1))
        | (go_at_call 72; ((with_reducible refine (has_any _ _ a _ _ _ _ _ _ _).mono ?_); rintro e2 w2 ⟨rfl, hb2⟩; obtain ⟨f0, f1, f2, f3, hs2⟩ := box4_next hb2 (by omega) d0 d1 d2 d3; have X2 := Lib.hid (X1.out.trans (hb2.mono (by omega))); clear hb2)))
      go_ret
      exact ⟨ret_int hz.out.symm, X2.out⟩
    · obtain ⟨m, e, b1, o1, b2, o2, rfl, rfl, rfl, rfl, hr, ⟨hop, _, hneg, _⟩, _, _, _, _⟩ := valid_data hv hX hY hca hcb
      have ha' := of_decide_eq_true ha
      obtain ⟨a, rfl⟩ := Int.eq_ofNat_of_zero_le ha'.1
      have la' : a < m := by omega
      have HD := Lib.hid (ordN_spec (fun k hk => (hr.ts.2 k hk).2) hop hneg hr.hm la')
      have H1 := Lib.hid (seqT_one hop hr.hm la')
      have HR := Lib.hid hr
      clear hr hop hneg
      have hz := Lib.hid (ordV_yes (hv) (ha))
      obtain ⟨c0, c1, c2, c3, hs⟩ := box4_new w (.int .i64 m) (.int .i64 e) (.slice (some ⟨b1, o1, none⟩) la ca) (.slice (some ⟨b2, o2, none⟩) lb cb) 25
      obtain ⟨W, hW⟩ : ∃ W, w.alloc (.cells #[.int .i64 m, .int .i64 e, .slice (some ⟨b1, o1, none⟩) la ca, .slice (some ⟨b2, o2, none⟩) lb cb] 25) = W := ⟨_, rfl⟩
      have HB := Lib.hid (show Below w.heap.size w W by subst hW; exact (Below.refl w.heap.size w).alloc (Nat.le_refl _) _)
      have H0X := Lib.hid (hX.next HB.out)
      have H0Y := Lib.hid (hY.next HB.out)
      rw [hW] at c0 c1 c2 c3 hs
      have HW := Lib.hid hW
      clear hW hX hY
      have R0 := Lib.hid (HR.out.next HB.out)
      go_enter Try.func26, Try.ntmps26
      go_wp2_with (fail)
      rw [HW.out]
      have X0 := HB
      go_wp2_with (first
        | (go_at_call 71; ((with_reducible refine (valid_any _ _ _ _ _ _ _ _ X Y _ H0X.out H0Y.out hla hlb hca hcb).mono ?_); rintro e1 w1 ⟨rfl, hb1⟩; obtain ⟨d0, d1, d2, d3, hs1⟩ := box4_next hb1 (by omega) c0 c1 c2 c3; have X1 := Lib.hid (X0.out.trans (hb1.mono (by omega))); have R1 := Lib.hid (R0.out.next hb1); clear hb1))
        | (go_at_call 72; ((with_reducible refine (has_any _ _ a _ _ _ _ _ _ _).mono ?_); rintro e2 w2 ⟨rfl, hb2⟩; obtain ⟨f0, f1, f2, f3, hs2⟩ := box4_next hb2 (by omega) d0 d1 d2 d3; have X2 := Lib.hid (X1.out.trans (hb2.mono (by omega))); have R2 := Lib.hid (R1.out.next hb2); clear hb2))
        | (go_at_call 77; ((with_reducible refine (sumOrder_any a (ordN m (tabOf X) a) m e b1 o1 la ca b2 o2 lb cb (tabOf X) (tabOf Y) _ R2.out la' HD.out H1.out).mono ?_); rintro e3 w3 ⟨rfl, hb3⟩; obtain ⟨g0, g1, g2, g3, hs3⟩ := box4_next hb3 (by omega) f0 f1 f2 f3; have X3 := Lib.hid (X2.out.trans (hb3.mono (by omega))); clear hb3)))
      go_ret
      exact ⟨ret_int hz.out.symm, X3.out⟩
set_option maxHeartbeats 2000000 in
theorem uord_any (n o : Int) (A B : Option Addr) (la ca lb cb : Nat) (X Y : List Int) (a : Int) (w : World) (hX : Ints w w.heap.size A la X) (hY : Ints w w.heap.size B lb Y) (hla : la ≤ 9223372036854775807) (hlb : lb ≤ 9223372036854775807) (hca : la ≤ ca) (hcb : lb ≤ cb) :
    Calls Try.prog 29 #[.agg #[.int .i64 n, .int .i64 o, .slice A la ca, .slice B lb cb], .int .i64 a] w fun e' w' => e' = .returned (.int .i64 (uordV n o X Y a)) ∧ Below w.heap.size w w' := by
  by_cases hv : 0 ≤ invV n o X Y a
  · obtain ⟨hvv, hin⟩ : validB n o X Y = true ∧ inB n a = true := by
      rcases Classical.em (validB n o X Y = true ∧ inB n a = true) with h | h
      · exact h
      · rw [invV_no h] at hv; omega
    obtain ⟨m, e, b1, o1, b2, o2, rfl, rfl, rfl, rfl, hr, ⟨hop, hop2, hneg, _⟩, _, _, _, _⟩ := valid_data hvv hX hY hca hcb
    have ha' := of_decide_eq_true hin
    obtain ⟨a, rfl⟩ := Int.eq_ofNat_of_zero_le ha'.1
    have la' : a < m := by omega
    have hu : UnitAt m (tabOf Y) e a := by rw [invV_yes hvv hin] at hv; exact inv_unit.1 hv
    have HD := Lib.hid (ordZ_spec (fun k hk => (hr.tp.2 k hk).2) hop2 hr.he hu la')
    have H1 := Lib.hid (seqZ_one hop2 hr.he la')
    have hz := Lib.hid (uordV_yes hv)
    have he := hr.he
    have hm := hr.hm
    have hm' := hr.hm'
    have HL := Lib.hid (show ∀ k, seqZ m (tabOf Y) e a k < m from seqZ_lt (fun k hk => (hr.tp.2 k hk).2) hr.he la')
    have HR := Lib.hid hr
    have hv2 : ¬ invV m e X Y a < 0 := by omega
    clear hr hop hop2 hneg hu
    obtain ⟨c0, c1, c2, c3, hs⟩ := box4_new w (.int .i64 m) (.int .i64 e) (.slice (some ⟨b1, o1, none⟩) la ca) (.slice (some ⟨b2, o2, none⟩) lb cb) 25
    obtain ⟨W, hW⟩ : ∃ W, w.alloc (.cells #[.int .i64 m, .int .i64 e, .slice (some ⟨b1, o1, none⟩) la ca, .slice (some ⟨b2, o2, none⟩) lb cb] 25) = W := ⟨_, rfl⟩
    have HB := Lib.hid (show Below w.heap.size w W by subst hW; exact (Below.refl w.heap.size w).alloc (Nat.le_refl _) _)
    have H0X := Lib.hid (hX.next HB.out)
    have H0Y := Lib.hid (hY.next HB.out)
    rw [hW] at c0 c1 c2 c3 hs
    have HW := Lib.hid hW
    clear hW hX hY
    have R0 := Lib.hid (HR.out.next HB.out)
    go_enter Try.func29, Try.ntmps29
    go_wp2_with (fail)
    rw [HW.out]
    go_wp2_with (first
      | (go_at_call 80; ((with_reducible refine (inv_any _ _ _ _ _ _ _ _ X Y _ _ H0X.out H0Y.out hla hlb hca hcb).mono ?_); rintro e1 w1 ⟨rfl, hb1⟩; obtain ⟨d0, d1, d2, d3, hs1⟩ := box4_next hb1 (by omega) c0 c1 c2 c3; have X1 := Lib.hid (HB.out.trans (hb1.mono (by omega))); have R1 := Lib.hid (R0.out.next hb1); clear hb1))
      | (go_at_call 81; (with_reducible refine (order_any _ e a (ordZ m (tabOf Y) e a) rfl b2 o2 lb cb (tabOf Y) m e b1 o1 la ca b2 o2 lb cb (tabOf X) (tabOf Y) _ R1.out R1.out.tp R1.out.hlb R1.out.hcb la' he HD.out H1.out).mono ?_); rintro e2 w2 ⟨rfl, hb2⟩; have X2 := Lib.hid (X1.out.trans (hb2.mono (by omega))); clear hb2))
    go_ret
    exact ⟨ret_int hz.out.symm, X2.out⟩
  · have hz := Lib.hid (uordV_no hv)
    have hv2 : invV n o X Y a < 0 := by omega
    obtain ⟨c0, c1, c2, c3, hs⟩ := box4_new w (.int .i64 n) (.int .i64 o) (.slice A la ca) (.slice B lb cb) 25
    obtain ⟨W, hW⟩ : ∃ W, w.alloc (.cells #[.int .i64 n, .int .i64 o, .slice A la ca, .slice B lb cb] 25) = W := ⟨_, rfl⟩
    have HB := Lib.hid (show Below w.heap.size w W by subst hW; exact (Below.refl w.heap.size w).alloc (Nat.le_refl _) _)
    have H0X := Lib.hid (hX.next HB.out)
    have H0Y := Lib.hid (hY.next HB.out)
    rw [hW] at c0 c1 c2 c3 hs
    have HW := Lib.hid hW
    clear hW hX hY
    go_enter Try.func29, Try.ntmps29
    go_wp2_with (fail)
    rw [HW.out]
    go_wp2_with ((go_at_call 80; ((with_reducible refine (inv_any _ _ _ _ _ _ _ _ X Y _ _ H0X.out H0Y.out hla hlb hca hcb).mono ?_); rintro e1 w1 ⟨rfl, hb1⟩; obtain ⟨d0, d1, d2, d3, hs1⟩ := box4_next hb1 (by omega) c0 c1 c2 c3; have X1 := Lib.hid (HB.out.trans (hb1.mono (by omega))); clear hb1)))
    go_ret
    exact ⟨ret_int hz.out.symm, X1.out⟩
set_option maxHeartbeats 2000000 in
theorem suord_any (n o : Int) (A B : Option Addr) (la ca lb cb : Nat) (X Y : List Int) (a : Int) (w : World) (hX : Ints w w.heap.size A la X) (hY : Ints w w.heap.size B lb Y) (hla : la ≤ 9223372036854775807) (hlb : lb ≤ 9223372036854775807) (hca : la ≤ ca) (hcb : lb ≤ cb) :
    Calls Try.prog 86 #[.agg #[.int .i64 n, .int .i64 o, .slice A la ca, .slice B lb cb], .int .i64 a] w fun e' w' => e' = .returned (.int .i64 (uordV n o X Y a)) ∧ Below w.heap.size w w' := by
  by_cases hv : 0 ≤ invV n o X Y a
  · obtain ⟨hvv, hin⟩ : validB n o X Y = true ∧ inB n a = true := by
      rcases Classical.em (validB n o X Y = true ∧ inB n a = true) with h | h
      · exact h
      · rw [invV_no h] at hv; omega
    obtain ⟨m, e, b1, o1, b2, o2, rfl, rfl, rfl, rfl, hr, ⟨hop, hop2, hneg, _⟩, _, _, _, _⟩ := valid_data hvv hX hY hca hcb
    have ha' := of_decide_eq_true hin
    obtain ⟨a, rfl⟩ := Int.eq_ofNat_of_zero_le ha'.1
    have la' : a < m := by omega
    have hu : UnitAt m (tabOf Y) e a := by rw [invV_yes hvv hin] at hv; exact inv_unit.1 hv
    have HD := Lib.hid (ordZ_spec (fun k hk => (hr.tp.2 k hk).2) hop2 hr.he hu la')
    have H1 := Lib.hid (seqZ_one hop2 hr.he la')
    have hz := Lib.hid (uordV_yes hv)
    have he := hr.he
    have hm := hr.hm
    have hm' := hr.hm'
    have HL := Lib.hid (show ∀ k, seqZ m (tabOf Y) e a k < m from seqZ_lt (fun k hk => (hr.tp.2 k hk).2) hr.he la')
    have HR := Lib.hid hr
    have hv2 : ¬ invV m e X Y a < 0 := by omega
    clear hr hop hop2 hneg hu
    obtain ⟨c0, c1, c2, c3, hs⟩ := box4_new w (.int .i64 m) (.int .i64 e) (.slice (some ⟨b1, o1, none⟩) la ca) (.slice (some ⟨b2, o2, none⟩) lb cb) 25
    obtain ⟨W, hW⟩ : ∃ W, w.alloc (.cells #[.int .i64 m, .int .i64 e, .slice (some ⟨b1, o1, none⟩) la ca, .slice (some ⟨b2, o2, none⟩) lb cb] 25) = W := ⟨_, rfl⟩
    have HB := Lib.hid (show Below w.heap.size w W by subst hW; exact (Below.refl w.heap.size w).alloc (Nat.le_refl _) _)
    have H0X := Lib.hid (hX.next HB.out)
    have H0Y := Lib.hid (hY.next HB.out)
    rw [hW] at c0 c1 c2 c3 hs
    have HW := Lib.hid hW
    clear hW hX hY
    have R0 := Lib.hid (HR.out.next HB.out)
    go_enter Try.func86, Try.ntmps86
    go_wp2_with (fail)
    rw [HW.out]
    go_wp2_with ((go_at_call 111; ((with_reducible refine (sinv_any _ _ _ _ _ _ _ _ X Y _ _ H0X.out H0Y.out hla hlb hca hcb).mono ?_); rintro e1 w1 ⟨rfl, hb1⟩; obtain ⟨d0, d1, d2, d3, hs1⟩ := box4_next hb1 (by omega) c0 c1 c2 c3; have X1 := Lib.hid (HB.out.trans (hb1.mono (by omega))); have R1 := Lib.hid (R0.out.next hb1); clear hb1)))
    have hd1 := HD.out.1
    have hd2 := HD.out.2.1
    have hsz := hs1
    go_loopg [5, 6] m (fun g c s wr => ∃ k : Nat, 1 ≤ k ∧ k ≤ ordZ m (tabOf Y) e a ∧ m ≤ k + g ∧ c = .int .i64 k ∧ s = .int .i64 (seqZ m (tabOf Y) e a k) ∧ Below w1.heap.size w1 wr)
    case atStart => exact ⟨1, Nat.le_refl _, hd1, by omega, rfl, by rw [H1.out], Below.refl _ _⟩
    case round =>
      obtain ⟨k, hk1, hkd, hg, rfl, rfl, hb⟩ := hrel
      obtain ⟨f0, f1, f2, f3, hs2⟩ := box4_next hb (by omega) d0 d1 d2 d3
      have X2 := Lib.hid (X1.out.trans (hb.mono (by omega)))
      have B2 := Lib.hid hb
      have R2 := Lib.hid (R1.out.next hb)
      have hl := HL.out k
      clear hb
      by_cases h0 : seqZ m (tabOf Y) e a k = e
      · have t0 : (((seqZ m (tabOf Y) e a k : Nat) : Int) != (e : Int)) = false := by rw [bne_eq_false_iff_eq]; omega
        have hkk : k = ordZ m (tabOf Y) e a := by
          rcases Nat.lt_or_ge k (ordZ m (tabOf Y) e a) with h2 | h2
          · exact absurd h0 (HD.out.2.2.2 k hk1 h2)
          · omega
        have HK := Lib.hid hkk
        clear h0 hkk
        go_wp2
        go_ret
        exact ⟨ret_int (by rw [hz.out, HK.out]), X2.out⟩
      · have t0 : (((seqZ m (tabOf Y) e a k : Nat) : Int) != (e : Int)) = true := by rw [bne_iff_ne]; omega
        have hkk : k < ordZ m (tabOf Y) e a := by
          rcases Nat.lt_or_ge k (ordZ m (tabOf Y) e a) with h2 | h2
          · exact h2
          · have q : k = ordZ m (tabOf Y) e a := by omega
            exact absurd (by rw [q]; exact HD.out.2.2.1) h0
        clear h0
        go_wp2_with (go_at_call 51; ((with_reducible refine (l1Mul_any (seqZ m (tabOf Y) e a k) a m e b1 o1 la ca b2 o2 lb cb (tabOf X) (tabOf Y) _ R2.out hl la').mono ?_); rintro e3 w3 ⟨rfl, hb3⟩; have B3 := Lib.hid (B2.out.trans (hb3.mono hs2)); clear hb3))
        go_roundg (m - (k + 1))
        case measure => omega
        case rel => exact ⟨k + 1, by omega, by omega, by omega, by go_num, rfl, B3.out⟩
  · have hz := Lib.hid (uordV_no hv)
    have hv2 : invV n o X Y a < 0 := by omega
    obtain ⟨c0, c1, c2, c3, hs⟩ := box4_new w (.int .i64 n) (.int .i64 o) (.slice A la ca) (.slice B lb cb) 25
    obtain ⟨W, hW⟩ : ∃ W, w.alloc (.cells #[.int .i64 n, .int .i64 o, .slice A la ca, .slice B lb cb] 25) = W := ⟨_, rfl⟩
    have HB := Lib.hid (show Below w.heap.size w W by subst hW; exact (Below.refl w.heap.size w).alloc (Nat.le_refl _) _)
    have H0X := Lib.hid (hX.next HB.out)
    have H0Y := Lib.hid (hY.next HB.out)
    rw [hW] at c0 c1 c2 c3 hs
    have HW := Lib.hid hW
    clear hW hX hY
    go_enter Try.func86, Try.ntmps86
    go_wp2_with (fail)
    rw [HW.out]
    go_wp2_with ((go_at_call 111; ((with_reducible refine (sinv_any _ _ _ _ _ _ _ _ X Y _ _ H0X.out H0Y.out hla hlb hca hcb).mono ?_); rintro e1 w1 ⟨rfl, hb1⟩; obtain ⟨d0, d1, d2, d3, hs1⟩ := box4_next hb1 (by omega) c0 c1 c2 c3; have X1 := Lib.hid (HB.out.trans (hb1.mono (by omega))); clear hb1)))
    go_ret
    exact ⟨ret_int hz.out.symm, X1.out⟩

end Go.Proofs.Ytlcpbdbdiahmjaa



/- KindsOf of both sides. -/
namespace Go.Proofs.Ytlcpbdbdiahmjaa
open Go.RowKit
set_option maxRecDepth 100000

theorem own_nextK {w w' : World} {base : Nat} {e : TypeId} {size : Nat} {v : Value} {n : Nat} {xs : List Value} (h : w.ownsRow base e size v n xs) (hb : Below w.heap.size w w') : w'.ownsRow base e size v n xs :=
  h.kept (Go.Proofs.Ytlcpbdbdiahmjaa.Below.grown_ hb) (by
    rcases h.2 with ⟨rfl, _⟩ | ⟨g, cap, cur, rfl, _⟩
    · exact .inl rfl
    · exact .inr (by simp [Value.ownBlock]))

/-- The functions that test for the kinds. -/
def testsV (R : Value) : Array Value := #[.func (.func 136) #[R] #[], .func (.func 137) #[R] #[], .func (.func 138) #[R] #[], .func (.func 139) #[R] #[]]
theorem kindTests_any (n o : Int) (A B : Option Addr) (la ca lb cb : Nat) (w : World) :
    Calls Try.prog 130 #[.agg #[.int .i64 n, .int .i64 o, .slice A la ca, .slice B lb cb]] w fun e w' => ∃ g, e = .returned (.slice (some ⟨g, 0, none⟩) 4 4) ∧ w.heap.size ≤ g ∧
      Blk w' g 78 (testsV (.agg #[.int .i64 n, .int .i64 o, .slice A la ca, .slice B lb cb])) ∧ Below w.heap.size w w' := by
  go_enter Try.func130, Try.ntmps130
  go_wp2
  go_ret
  refine ⟨w.heap.size + 1, rfl, by omega, ?_, ((Below.refl _ _).alloc (Nat.le_refl _) _).alloc (by simp) _⟩
  have := Blk.new (w.alloc (.cells #[.int .i64 n, .int .i64 o, .slice A la ca, .slice B lb cb] 25)) 78 (testsV (.agg #[.int .i64 n, .int .i64 o, .slice A la ca, .slice B lb cb]))
  rw [World.size_alloc] at this
  exact this

/-- The letters of the kinds, up to a kind. -/
def letterB (k : Nat) : UInt8 := #[117, 100, 110, 105].getD k 0
theorem letter_at (k : Nat) (h : k < 4) : ({ data := #[117, 100, 110, 105] } : ByteArray)[k]'h = letterB k := by
  have g : ∀ t : Fin 4, (#[117, 100, 110, 105] : Array UInt8)[t.val]'t.isLt = letterB t.val := by decide
  exact g ⟨k, h⟩

attribute [local go_sem] letter_at

end Go.Proofs.Ytlcpbdbdiahmjaa



/- An iterator over the elements that pass a test: the closure of where. -/
namespace Go.Proofs.Ytlcpbdbdiahmjaa
open Go.RowKit Go.Shelf
set_option maxRecDepth 100000
attribute [local go_sem] Oper.semAt_some

/-- The elements of a ring of m that pass a test, up to k. -/
def selTo (m : Nat) (p : Nat → Bool) : Nat → List (Fin m)
  | 0 => []
  | k + 1 => if h : k < m then (if p k = true then selTo m p k ++ [⟨k, h⟩] else selTo m p k) else selTo m p k
section
variable {m k : Nat} {p : Nat → Bool}
theorem selTo_yes (h : k < m) (hp : p k = true) : selTo m p (k + 1) = selTo m p k ++ [⟨k, h⟩] := by
  show (if h : k < m then (if p k = true then selTo m p k ++ [⟨k, h⟩] else selTo m p k) else selTo m p k) = _
  rw [dif_pos h, if_pos hp]
theorem selTo_no (hp : p k = false) : selTo m p (k + 1) = selTo m p k := by
  show (if h : k < m then (if p k = true then selTo m p k ++ [⟨k, h⟩] else selTo m p k) else selTo m p k) = _
  split
  · rw [if_neg (by rw [hp]; simp)]
  · rfl
theorem selTo_len : ∀ k, (selTo m p k).length ≤ k
  | 0 => Nat.le_refl _
  | k + 1 => by
    have := selTo_len k
    simp only [selTo]
    split
    · split <;> simp <;> omega
    · omega
theorem selTo_pre : ∀ d, selTo m p k <+: selTo m p (k + d)
  | 0 => List.prefix_refl _
  | d + 1 => by
    refine (selTo_pre d).trans ?_
    show _ <+: selTo m p (k + d + 1)
    simp only [selTo]
    split
    · split
      · exact List.prefix_append _ _
      · exact List.prefix_refl _
    · exact List.prefix_refl _
theorem selTo_le {l : Nat} (h : k ≤ l) : selTo m p k <+: selTo m p l := by
  have := selTo_pre (m := m) (p := p) (k := k) (l - k)
  rwa [show k + (l - k) = l by omega] at this
end

set_option maxHeartbeats 2000000 in
theorem where1_in (n m l Br Bp pf : Nat) (bd : Array Value) (p : Nat → Bool) (hn : 1 ≤ n) (hm' : m ≤ 16) (Kp : World → World → Prop) (Inv : World → Prop)
    (eg : ∀ args w, (callFunc pf args).run Try.prog w = .ok (.enter pf args) w)
    (i1 : ∀ W, Inv W → W.cell? ⟨Br, 0, none⟩ = some (.int .i64 m)) (i2 : ∀ W, Inv W → W.cell? ⟨Bp, 0, none⟩ = some (.func (.func pf) bd #[])) (i3 : ∀ W W', Inv W → Below W.heap.size W W' → Inv W') (i4 : ∀ W W', Inv W → Kp W W' → Inv W')
    (hp : ∀ a, a < m → ∀ W, Inv W → Calls Try.prog pf (bd.push (.int .i64 a)) W fun e w' => e = .returned (.bool (p a)) ∧ Below W.heap.size W w')
    (J Jx : List (Fin m) → World → Prop) (W : World) (hJ : AbidesFrom W.heap.size J)
    (hY : ∀ pre x W1, J pre W1 → pre.length < m → YieldAt Fence.wide (n - 1) Try.prog l #[.int .i64 (x.1 : Int)] W1 fun e W' =>
      (e = .returned (.bool true) ∧ J (pre ++ [x]) W' ∧ Kp W1 W') ∨ (e = .returned (.bool false) ∧ Jx (pre ++ [x]) W'))
    (hW : Inv W) (h0 : J [] W) :
    CallsIn Fence.wide n Try.prog 135 #[.func (.yield l) #[] #[], .pointer (some ⟨Br, 0, none⟩), .pointer (some ⟨Bp, 0, none⟩)] W fun e W' => (∃ v, e = .returned v) ∧
      ((∃ ys, ys = selTo m p m ∧ J ys W') ∨ (∃ pre, pre <+: selTo m p m ∧ Jx pre W')) := by
  have c1 := i1 W hW
  refine callsIn_of_wp Try.func135 rfl trivial ?_ rfl
  simp only [Try.ntmps135, List.size_toArray, List.length_cons, List.length_nil, Nat.reduceAdd, Nat.reduceSub, Array.replicate_succ, Array.replicate_zero, List.push_toArray, List.append_toArray, List.nil_append, List.cons_append]
  gi_wp2
  gi_loopw [7] (fun i wr => ∃ k : Nat, k ≤ m ∧ i = .int .i64 k ∧ J (selTo m p k) wr ∧ Inv wr) (fun i _ => m - (intOf i).toNat)
  case atStart => exact ⟨0, Nat.zero_le _, rfl, h0, hW⟩
  case round =>
    obtain ⟨k, hk, rfl, hJs, hI⟩ := hrel
    have c2 := i2 wr hI
    have JS := Lib.hid hJs
    clear hJs
    by_cases hlt : k < m
    · cases hq : p k
      · have hpk := hp k hlt wr hI
        rw [hq] at hpk
        have HQ := Lib.hid hq
        gi_wp2
        refine ⟨trivial, (callsIn_wide.2 hpk).mono ?_⟩
        rintro e w1 ⟨rfl, hb1⟩
        clear hpk
        gi_wp2
        refine ⟨fun _ h => (by cases h), ?_⟩
        gi_wp2
        go_roundw
        case rel => exact ⟨k + 1, by omega, by go_num, by rw [selTo_no HQ.out]; exact hJ _ wr w1 none JS.out (Below.grown_ hb1) (fun r e => by cases e), i3 _ _ hI hb1⟩
        case measure => simp [intOf]; omega
      · have hpk := hp k hlt wr hI
        rw [hq] at hpk
        have HQ := Lib.hid hq
        gi_wp2
        refine ⟨trivial, (callsIn_wide.2 hpk).mono ?_⟩
        rintro e w1 ⟨rfl, hb1⟩
        clear hpk
        have hl := selTo_len (m := m) (p := p) k
        obtain ⟨fn, tmps, assign, body, hy, hR⟩ := hY _ ⟨k, hlt⟩ w1 (hJ _ wr w1 none JS.out (Below.grown_ hb1) (fun r e => by cases e)) (by omega)
        dsimp only at hy
        have HI1 := Lib.hid (i3 _ _ hI hb1)
        gi_wp2
        refine hR.mono ?_
        rintro e W3 (⟨rfl, hJ3, hk3⟩ | ⟨rfl, hJx3⟩)
        · have HI3 := Lib.hid (i4 _ _ HI1.out hk3)
          gi_wp2
          go_roundw
          case rel => exact ⟨k + 1, by omega, by go_num, by rw [selTo_yes hlt HQ.out]; exact hJ3, HI3.out⟩
          case measure => simp [intOf]; omega
        · gi_wp2
          refine bodyPost_ret (results_none rfl _ _ _) rfl ?_
          exact ⟨⟨_, rfl⟩, .inr ⟨_, by rw [← selTo_yes hlt HQ.out]; exact selTo_le hlt, hJx3⟩⟩
    · have hkm : k = m := by omega
      subst hkm
      gi_wp2
      go_end0
      exact ⟨⟨_, rfl⟩, .inl ⟨_, rfl, JS.out⟩⟩

end Go.Proofs.Ytlcpbdbdiahmjaa



/- Lists that are collected from an iterator: where, AppendSeq, Collect. -/
namespace Go.Proofs.Ytlcpbdbdiahmjaa
open Go.RowKit Go.Shelf
set_option maxRecDepth 100000
attribute [local go_sem] Oper.semAt_some

theorem where_any (n o : Int) (A B : Option Addr) (la ca lb cb pf : Nat) (bd : Array Value) (w : World) :
    Calls Try.prog 129 #[.agg #[.int .i64 n, .int .i64 o, .slice A la ca, .slice B lb cb], .func (.func pf) bd #[]] w fun e w' =>
      e = .returned (.func (.func 135) #[] #[.pointer (some ⟨w.heap.size, 0, none⟩), .pointer (some ⟨w.heap.size + 1, 0, none⟩)]) ∧
      Blk w' w.heap.size 25 #[.int .i64 n, .int .i64 o, .slice A la ca, .slice B lb cb] ∧ Blk w' (w.heap.size + 1) 78 #[.func (.func pf) bd #[]] ∧ Below w.heap.size w w' := by
  go_enter Try.func129, Try.ntmps129
  go_wp2
  go_ret
  refine ⟨rfl, (Blk.new _ _ _).alloc _, ?_, ((Below.refl _ _).alloc (Nat.le_refl _) _).alloc (by simp) _⟩
  have := Blk.new (w.alloc (.cells #[.int .i64 n, .int .i64 o, .slice A la ca, .slice B lb cb] 25)) 78 #[.func (.func pf) bd #[]]
  rw [World.size_alloc] at this
  exact this

abbrev encF (m : Nat) (x : Fin m) : Array Value := #[.int .i64 (x.1 : Int)]
abbrev finV {m : Nat} (l : List (Fin m)) : List Value := l.map fun x => .int .i64 (x.1 : Int)
/-- What where hands back is an iterator over the elements that pass the test. -/
theorem where_stops (n m Br Bp pf : Nat) (bd : Array Value) (p : Nat → Bool) (hn : 1 ≤ n) (hm' : m ≤ 16) (Kp : World → World → Prop) (Inv : World → Prop)
    (eg : ∀ args w, (callFunc pf args).run Try.prog w = .ok (.enter pf args) w)
    (i1 : ∀ W, Inv W → W.cell? ⟨Br, 0, none⟩ = some (.int .i64 m)) (i2 : ∀ W, Inv W → W.cell? ⟨Bp, 0, none⟩ = some (.func (.func pf) bd #[])) (i3 : ∀ W W', Inv W → Below W.heap.size W W' → Inv W') (i4 : ∀ W W', Inv W → Kp W W' → Inv W')
    (hp : ∀ a, a < m → ∀ W, Inv W → Calls Try.prog pf (bd.push (.int .i64 a)) W fun e w' => e = .returned (.bool (p a)) ∧ Below W.heap.size W w')
    (w : World) (hI : ∀ W, Below w.heap.size w W → Inv W) :
    SeqStopsK Fence.wide n Try.prog 135 #[.pointer (some ⟨Br, 0, none⟩), .pointer (some ⟨Bp, 0, none⟩)] (encF m) Kp (fun ys => ys = selTo m p m) (fun pre => pre <+: selTo m p m) m w :=
  fun l J Jx W hW hJ _ hY h0 => where1_in n m l Br Bp pf bd p hn hm' Kp Inv eg i1 i2 i3 i4 hp J Jx W hJ hY (hI W hW) h0

set_option maxHeartbeats 4000000 in
theorem appendSeq_any (m gf n0 N : Nat) (lb : Array Value) (L : List (Fin m)) (Sp : List (Fin m) → Prop) (w : World) (eg : ∀ args w, (callFunc gf args).run Try.prog w = .ok (.enter gf args) w)
    (hseq : SeqStopsK Fence.wide 2 Try.prog gf lb (encF m) (Below n0) (fun ys => ys = L) Sp N w) (hN : N ≤ 1000) (hn0 : n0 ≤ w.heap.size) :
    Calls Try.prog 128 #[.slice none 0 0, .func (.func gf) #[] lb] w fun e w' => ∃ v, e = .returned v ∧ w'.ownsRow w.heap.size 3 1 v L.length (finV L) ∧ Below w.heap.size w w' := by
  obtain ⟨i0, hi, hz0, hz1, hz2⟩ := info_parts int_info
  refine (callsIn_wide (n := 3)).1 ?_
  refine callsIn_of_wp_marks Try.func128 rfl trivial ?_ rfl
  simp only [Try.ntmps128, List.size_toArray, List.length_cons, List.length_nil, Nat.reduceAdd, Nat.reduceSub, Array.replicate_succ, Array.replicate_zero, List.push_toArray, List.append_toArray, List.nil_append, List.cons_append]
  gi_wp2
  have bO := Boxed.new w 23 (.slice none 0 0)
  have hB0 : Below w.heap.size w (w.alloc (.cells #[.slice none 0 0] 23)) := (Below.refl _ w).alloc (Nat.le_refl _) _
  refine wpIn_rangeFunc_ownG rfl (by omega) (gf := gf) (lb := lb) rfl trivial eg hseq belowK_t (belowK_b (by simp; omega)) hB0 (fun _ => rfl)
    (fun pre W => (∃ v, Boxed W w.heap.size 23 v ∧ W.ownsRow w.heap.size 3 1 v pre.length (finV pre) ∧ True) ∧ Below w.heap.size w W)
    (fun _ _ _ => False)
    (OwnFrom.and (Own.from (holdsRow_own w.heap.size w.heap.size 23 3 1 (fun pre => pre.length) (fun pre => finV pre) (fun _ _ => True)) _) (ownFrom_below (Nat.le_refl _) (by simp)))
    (fun _ _ _ _ _ hs _ _ => hs)
    ⟨⟨_, bO, World.ownsRow_nil _ _ _ _, trivial⟩, hB0⟩
    (fun x => { tmps := #[.slice none 0 0, .func (.func gf) #[] lb, .pointer (some ⟨w.heap.size, 0, none⟩), undef, .slice none 0 0, .int .i64 (x.1 : Int), .func (.func gf) #[] lb, .int .i64 (x.1 : Int), undef, undef, undef, undef, undef], defers := [] }) ?assign ?body ?done ?stop
  case assign =>
    intro l x W K hK
    gi_wp2
    exact hK
  case body =>
    rintro l pre x W ⟨⟨v, hv, hrow, _⟩, hB⟩ hlt
    have hc := hv.cell
    gi_wp2_with (gi_at_builtin; refine wpListIn_append_own _ rfl _ _ 23 rfl w.heap.size 3 i0 (.int .i64 0) 1 8 Try.underlying23 hi hz0 hz1 hz2 rfl (by decide) _ _ _ rfl (hrow.alloc _) ⟨W.heap.size, 0, none⟩ 1 1 [.int .i64 (x.1 : Int)] rfl rfl (cell_one_new _ _ _) (by simp [Value.oneCell']) (by unfold maxLen; omega) (by omega) (by have := hB.size; simp; omega) ?_; intro v' w1 hown' hgrow _; obtain ⟨g', cap', rfl⟩ := ownsRow_succ hown'; obtain ⟨hv1, hv2, hr2, hk2, hb2⟩ := hv.appended (by decide) hrow hB.size (Nat.le_refl _) hown' hgrow; have hc1 := hv1.cell; have hf1 := hv1.frozen)
    exact ⟨hk2.from _, hb2.mono hn0, ⟨_, hv2, by simpa [finV] using hr2, trivial⟩, hB.trans hb2⟩
  case done =>
    rintro D ys W hD rfl ⟨⟨v, hv, hrow, _⟩, hB⟩ hK
    have hc := hv.cell
    gi_wp2
    refine ⟨by simp, .inl ⟨_, _, rfl, run_takeDeferred hK, ?_⟩⟩
    exact ⟨_, results_tmp rfl _ _ _, v, rfl, ownsRow_putObj hrow _ hK rfl, hB.trans (belowK_b (w := w) (Nat.le_refl _) W D _ _ (by simp at hD; omega) hK rfl rfl)⟩
  case stop =>
    rintro D c pre W _ _ h _
    exact h.elim

theorem collect_any (m gf n0 N : Nat) (lb : Array Value) (L : List (Fin m)) (Sp : List (Fin m) → Prop) (w : World) (eg : ∀ args w, (callFunc gf args).run Try.prog w = .ok (.enter gf args) w)
    (hseq : SeqStopsK Fence.wide 2 Try.prog gf lb (encF m) (Below n0) (fun ys => ys = L) Sp N w) (hN : N ≤ 1000) (hn0 : n0 ≤ w.heap.size) :
    Calls Try.prog 122 #[.func (.func gf) #[] lb] w fun e w' => ∃ v, e = .returned v ∧ w'.ownsRow w.heap.size 3 1 v L.length (finV L) ∧ Below w.heap.size w w' := by
  have H := Lib.hid (appendSeq_any m gf n0 N lb L Sp w eg hseq hN hn0)
  clear eg hseq
  go_enter Try.func122, Try.ntmps122
  go_wp2_with (go_at_call 128; (with_reducible refine H.out.mono ?_); rintro e1 w1 ⟨v, rfl, ho, hb⟩)
  go_ret
  exact ⟨v, rfl, ho, hb⟩

end Go.Proofs.Ytlcpbdbdiahmjaa



/- The elements of a kind, as the program lists them. -/
namespace Go.Proofs.Ytlcpbdbdiahmjaa
open Go.RowKit Go.Shelf
set_option maxRecDepth 100000

/-- The function that tests for a kind. -/
def testF (k : Nat) : Nat := #[136, 137, 138, 139].getD k 0
theorem testsV_get {R : Value} {k : Nat} (hk : k ≤ 3) : (testsV R)[k]? = some (.func (.func (testF k)) #[R] #[]) := by
  rcases (show k = 0 ∨ k = 1 ∨ k = 2 ∨ k = 3 by omega) with rfl | rfl | rfl | rfl <;> rfl
theorem tests_call {k a : Nat} (m e b1 o1 la ca b2 o2 lb cb : Nat) (S P : Nat → Nat) (w : World) (hr : RingAt w m e b1 o1 la ca b2 o2 lb cb S P) (hk : k ≤ 3) (ha : a < m) :
    Calls Try.prog (testF k) (#[.agg #[.int .i64 m, .int .i64 e, .slice (some ⟨b1, o1, none⟩) la ca, .slice (some ⟨b2, o2, none⟩) lb cb]].push (.int .i64 a)) w fun e' w' => e' = .returned (.bool (kindB m P e k a)) ∧ Below w.heap.size w w' := by
  rcases (show k = 0 ∨ k = 1 ∨ k = 2 ∨ k = 3 by omega) with rfl | rfl | rfl | rfl
  · exact isUnit_any a m e b1 o1 la ca b2 o2 lb cb S P w hr ha
  · exact isZeroDivisor_any a m e b1 o1 la ca b2 o2 lb cb S P w hr ha
  · exact isNilpotent_any a m e b1 o1 la ca b2 o2 lb cb S P w hr ha
  · exact isIdempotent_any a m e b1 o1 la ca b2 o2 lb cb S P w hr ha
theorem tests_enter {k : Nat} (hk : k ≤ 3) : ∀ args w, (callFunc (testF k) args).run Try.prog w = .ok (.enter (testF k) args) w := by
  rcases (show k = 0 ∨ k = 1 ∨ k = 2 ∨ k = 3 by omega) with rfl | rfl | rfl | rfl
  · exact enters_of Try.func136 (by kernel_rfl) rfl
  · exact enters_of Try.func137 (by kernel_rfl) rfl
  · exact enters_of Try.func138 (by kernel_rfl) rfl
  · exact enters_of Try.func139 (by kernel_rfl) rfl

def okMk (i : Nat) : Bool := i == 2 || i == 4 || i == 5 || i == 6
structure OkPhi (R : Value) (rc : Array Value) (k D : Nat) (i : Nat) (v : Value) (w : World) : Prop where
  p2 : i = 2 → ∃ g, v = .slice (some ⟨g, 0, none⟩) 4 4 ∧ Blk w g 78 (testsV R)
  p4 : i = 4 → ∃ g, v = .pointer (some ⟨g, k, none⟩) ∧ Blk w g 78 (testsV R)
  p5 : i = 5 → v = .func (.func (testF k)) #[R] #[]
  p6 : i = 6 → ∃ Br Bp, v = .func (.func 135) #[] #[.pointer (some ⟨Br, 0, none⟩), .pointer (some ⟨Bp, 0, none⟩)] ∧ D ≤ Br ∧ D ≤ Bp ∧ Blk w Br 25 rc ∧ Blk w Bp 78 #[.func (.func (testF k)) #[R] #[]]
structure OkSh (R : Value) (k : Nat) (i : Nat) (v : Value) : Prop where
  p2 : i = 2 → ∃ g, v = .slice (some ⟨g, 0, none⟩) 4 4
  p4 : i = 4 → ∃ g, v = .pointer (some ⟨g, k, none⟩)
  p5 : i = 5 → v = .func (.func (testF k)) #[R] #[]
  p6 : i = 6 → ∃ Br Bp, v = .func (.func 135) #[] #[.pointer (some ⟨Br, 0, none⟩), .pointer (some ⟨Bp, 0, none⟩)]
theorem OkPhi_stable {R : Value} {rc : Array Value} {k D : Nat} (i : Nat) (v : Value) (w w' : World) (h : OkPhi R rc k D i v w) (hb : Below w.heap.size w w') : OkPhi R rc k D i v w' :=
  ⟨fun e => by obtain ⟨g, h1, h2⟩ := h.p2 e; exact ⟨g, h1, h2.next hb⟩, fun e => by obtain ⟨g, h1, h2⟩ := h.p4 e; exact ⟨g, h1, h2.next hb⟩, h.p5, fun e => by obtain ⟨x, y, h1, h2, h3, h4, h5⟩ := h.p6 e; exact ⟨x, y, h1, h2, h3, h4.next hb, h5.next hb⟩⟩
theorem OkSh_of {R : Value} {rc : Array Value} {k D : Nat} (i : Nat) (v : Value) (w : World) (h : OkPhi R rc k D i v w) : OkSh R k i v :=
  ⟨fun e => by obtain ⟨g, h1, _⟩ := h.p2 e; exact ⟨g, h1⟩, fun e => by obtain ⟨g, h1, _⟩ := h.p4 e; exact ⟨g, h1⟩, h.p5, fun e => by obtain ⟨x, y, h1, _⟩ := h.p6 e; exact ⟨x, y, h1⟩⟩
def ok0 (R : Value) (k : Nat) (i : Nat) : Value := if i = 2 then .slice (some ⟨0, 0, none⟩) 4 4 else if i = 4 then .pointer (some ⟨0, k, none⟩) else if i = 5 then .func (.func (testF k)) #[R] #[] else .func (.func 135) #[] #[.pointer (some ⟨0, 0, none⟩), .pointer (some ⟨0, 0, none⟩)]
theorem OkSh_zero {R : Value} {k : Nat} (i : Nat) : OkSh R k i (ok0 R k i) := ⟨fun e => by subst e; exact ⟨0, rfl⟩, fun e => by subst e; exact ⟨0, rfl⟩, fun e => by subst e; rfl, fun e => by subst e; exact ⟨0, 0, rfl⟩⟩

set_option maxHeartbeats 4000000 in
theorem ofKind_any (k : Nat) (n o : Int) (A B : Option Addr) (la ca lb cb : Nat) (w : World) (hk : k ≤ 3) :
    Calls Try.prog 123 #[.agg #[.int .i64 n, .int .i64 o, .slice A la ca, .slice B lb cb], .int .i64 k] w fun e' w' => ∃ Br Bp, e' = .returned (.func (.func 135) #[] #[.pointer (some ⟨Br, 0, none⟩), .pointer (some ⟨Bp, 0, none⟩)]) ∧ w.heap.size ≤ Br ∧ w.heap.size ≤ Bp ∧
      Blk w' Br 25 #[.int .i64 n, .int .i64 o, .slice A la ca, .slice B lb cb] ∧ Blk w' Bp 78 #[.func (.func (testF k)) #[.agg #[.int .i64 n, .int .i64 o, .slice A la ca, .slice B lb cb]] #[]] ∧ Below w.heap.size w w' := by
  obtain ⟨c0, c1, c2, c3, hs⟩ := box4_new w (.int .i64 n) (.int .i64 o) (.slice A la ca) (.slice B lb cb) 25
  have b0 : Below w.heap.size w (w.alloc (.cells #[.int .i64 n, .int .i64 o, .slice A la ca, .slice B lb cb] 25)) := (Below.refl _ _).alloc (Nat.le_refl _) _
  obtain ⟨W, hW⟩ : ∃ W, w.alloc (.cells #[.int .i64 n, .int .i64 o, .slice A la ca, .slice B lb cb] 25) = W := ⟨_, rfl⟩
  rw [hW] at c0 c1 c2 c3 hs b0
  have B0 := Lib.hid b0
  have HW := Lib.hid hW
  have HT := Lib.hid (fun R => testsV_get (R := R) hk)
  have hk1 : (0 : Int) ≤ (k : Int) := by omega
  have hk2 : (k : Int) < 4 := by omega
  have hk3 : k < 4 := by omega
  clear b0 hW
  go_enter Try.func123, Try.ntmps123
  go_wp2_with (fail)
  rw [HW.out]
  refine wp_region_makersE 7 okMk (OkPhi (.agg #[.int .i64 n, .int .i64 o, .slice A la ca, .slice B lb cb]) #[.int .i64 n, .int .i64 o, .slice A la ca, .slice B lb cb] k w.heap.size) (OkSh (.agg #[.int .i64 n, .int .i64 o, .slice A la ca, .slice B lb cb]) k) (ok0 (.agg #[.int .i64 n, .int .i64 o, .slice A la ca, .slice B lb cb]) k) probe (by kernel_rfl) (by kernel_rfl) OkPhi_stable (fun i v x _ => OkSh_of i v x) (fun i _ => OkSh_zero i) ?_
  intro V hV vs hvs
  obtain ⟨tg, e2⟩ := (hvs 2 rfl).p2 rfl
  obtain ⟨tg2, e4⟩ := (hvs 4 rfl).p4 rfl
  have e5 := (hvs 5 rfl).p5 rfl
  obtain ⟨Br, Bp, e6⟩ := (hvs 6 rfl).p6 rfl
  have cW : ∃ x, extC V x := ⟨V, extC_of (Below.refl _ _)⟩
  have kx : ∀ x, extC V x → Below W.heap.size W x := fun x ⟨u, hu⟩ => by rw [hu]; exact hV.trans ((ext_below V u).mono hV.size)
  obtain ⟨f0, f1, f2, f3, hsV⟩ := box4_next hV hs c0 c1 c2 c3
  simp only [List.take_succ_cons, List.take_zero, List.drop_succ_cons, List.drop_zero]
  refine wpV_quietE cW 2 0 _ _ (by decide) (by decide) ?_
  simp only [List.take_succ_cons, List.take_zero, List.drop_succ_cons, List.drop_zero]
  repeat (go_big_quiet_step (fail))
  refine wpQuiet_nil ?_
  refine wpV_make_E rfl rfl (fun x hx _ => ?_) ?_
  · unfold makesAtE
    go_simp
    refine ⟨rfl, (kindTests_any n o A B la ca lb cb x).mono ?_⟩
    rintro _ x' ⟨g, rfl, hg, hblk, hb⟩
    exact ⟨_, rfl, hb, ⟨fun _ => ⟨g, rfl, hblk⟩, fun e => absurd e (by decide), fun e => absurd e (by decide), fun e => absurd e (by decide)⟩, fun b hbb => (by cases hbb)⟩
  rw [e2]
  go_simp
  refine wpV_quietE cW 1 _ _ _ (by decide) (by decide) ?_
  simp only [List.take_succ_cons, List.take_zero, List.drop_succ_cons, List.drop_zero]
  repeat (go_big_quiet_step (fail))
  refine wpQuiet_nil ?_
  refine wpV_make_E rfl rfl (fun x hx hd => ?_) ?_
  · obtain ⟨g1, q1, hblk⟩ := (hd ⟨2, .data⟩ (by simp) rfl rfl).p2 rfl
    rw [e2] at q1
    simp only [Value.slice.injEq, Option.some.injEq, Addr.mk.injEq, and_true] at q1
    subst q1
    unfold makesAtE
    go_simp
    exact ⟨Below.refl _ _, ⟨fun e => absurd e (by decide), fun _ => ⟨tg, rfl, hblk⟩, fun e => absurd e (by decide), fun e => absurd e (by decide)⟩, fun b hbb => (by cases hbb)⟩
  rw [e4]
  go_simp
  refine wpV_make_E rfl rfl (fun x hx hd => ?_) ?_
  · obtain ⟨g1, q1, hblk⟩ := (hd ⟨4, .data⟩ (by simp) rfl rfl).p4 rfl
    rw [e4] at q1
    simp only [Value.pointer.injEq, Option.some.injEq, Addr.mk.injEq, and_true] at q1
    subst q1
    have hck := (hblk.cell k).trans (HT.out _)
    unfold makesAtE
    go_simp
    exact ⟨Below.refl _ _, ⟨fun e => absurd e (by decide), fun e => absurd e (by decide), fun _ => rfl, fun e => absurd e (by decide)⟩, fun b hbb => (by cases hbb)⟩
  rw [e5]
  go_simp
  refine wpV_make_E rfl rfl (fun x hx _ => ?_) ?_
  · unfold makesAtE
    go_simp
    refine ⟨rfl, (where_any n o A B la ca lb cb (testF k) _ x).mono ?_⟩
    rintro _ x' ⟨rfl, hB1, hB2, hb⟩
    have hx1 := (kx x hx).size
    exact ⟨_, rfl, hb, ⟨fun e => absurd e (by decide), fun e => absurd e (by decide), fun e => absurd e (by decide), fun _ => ⟨_, _, rfl, by omega, by omega, hB1, hB2⟩⟩, fun b hbb => (by cases hbb)⟩
  rw [e6]
  go_simp
  refine wpV_nilE ?_
  intro w1 hb1 hf _
  obtain ⟨Br', Bp', q6, d1, d2, d3, d4⟩ := (hf 6 (by decide) rfl).p6 rfl
  rw [e6] at q6
  simp only [Value.func.injEq, Array.mk.injEq, List.cons.injEq, Value.pointer.injEq, Option.some.injEq, Addr.mk.injEq, true_and, and_true] at q6
  obtain ⟨rfl, rfl⟩ := q6
  have D1 := Lib.hid d1
  have D2 := Lib.hid d2
  have D3 := Lib.hid d3
  have D4 := Lib.hid d4
  have BB := Lib.hid (B0.out.trans (hb1.mono (by omega)))
  clear d1 d2 d3 d4 hb1 hf
  go_wp2
  go_ret
  exact ⟨_, _, rfl, D1.out, D2.out, D3.out, D4.out, BB.out⟩

end Go.Proofs.Ytlcpbdbdiahmjaa



/- The lists of the elements of a kind, of both sides. -/
namespace Go.Proofs.Ytlcpbdbdiahmjaa
open Go.RowKit Go.Shelf
set_option maxRecDepth 100000

/-- The elements of a kind as numbers. -/
def finI {m : Nat} (l : List (Fin m)) : List Int := l.map fun x => (x.1 : Int)
theorem finI_len {m : Nat} {l : List (Fin m)} : (finI l).length = l.length := by simp [finI]
theorem finV_I {m : Nat} {l : List (Fin m)} : finV l = (finI l).map (.int .i64) := by simp [finI, finV]
noncomputable def kindsL (n o : Int) (X Y : List Int) (k : Nat) : List Int := @ite _ (validB n o X Y = true) (Classical.propDecidable _) (finI (selTo n.toNat (kindB n.toNat (tabOf Y) o.toNat k) n.toNat)) []
theorem kindsL_no {n o : Int} {X Y : List Int} {k : Nat} (h : ¬ validB n o X Y = true) : kindsL n o X Y k = [] := @if_neg _ (Classical.propDecidable _) h _ _ _
theorem kindsL_yes {m e : Nat} {X Y : List Int} {k : Nat} (h : validB m e X Y = true) : kindsL m e X Y k = finI (selTo m (kindB m (tabOf Y) e k) m) := @if_pos _ (Classical.propDecidable _) h _ _ _

/-- What ofKind hands back is an iterator over the elements of the kind. -/
theorem ofKind_seq {k Br Bp : Nat} (m e b1 o1 la ca b2 o2 lb cb : Nat) (S P : Nat → Nat) (w : World) (hr : RingAt w m e b1 o1 la ca b2 o2 lb cb S P) (hk : k ≤ 3) (h1 : Blk w Br 25 #[.int .i64 m, .int .i64 e, .slice (some ⟨b1, o1, none⟩) la ca, .slice (some ⟨b2, o2, none⟩) lb cb])
    (h2 : Blk w Bp 78 #[.func (.func (testF k)) #[.agg #[.int .i64 m, .int .i64 e, .slice (some ⟨b1, o1, none⟩) la ca, .slice (some ⟨b2, o2, none⟩) lb cb]] #[]]) :
    SeqStopsK Fence.wide 2 Try.prog 135 #[.pointer (some ⟨Br, 0, none⟩), .pointer (some ⟨Bp, 0, none⟩)] (encF m) (Below w.heap.size) (fun ys => ys = selTo m (kindB m P e k) m) (fun pre => pre <+: selTo m (kindB m P e k) m) m w :=
  where_stops 2 m Br Bp (testF k) #[.agg #[.int .i64 m, .int .i64 e, .slice (some ⟨b1, o1, none⟩) la ca, .slice (some ⟨b2, o2, none⟩) lb cb]] (kindB m P e k) (by decide) hr.hm' (Below w.heap.size) (fun W => Below w.heap.size w W) (tests_enter hk)
    (fun W hW => (h1.below hW h1.lt).cell 0) (fun W hW => (h2.below hW h2.lt).cell 0) (fun W W' hW hb => hW.trans (hb.mono hW.size)) (fun W W' hW hb => hW.trans hb)
    (fun a ha W hW => tests_call m e b1 o1 la ca b2 o2 lb cb S P W (hr.next hW) hk ha) w (fun W hW => hW)

theorem sel_out {D m n1 : Nat} {w : World} {v : Value} {l : List (Fin m)} (h : w.ownsRow D 3 1 v n1 (finV l)) (hl : n1 = l.length) (hm : n1 ≤ 16) : SliceOut D w v (finI l) :=
  SliceOut.of_row (finV_I ▸ h) (by rw [finI_len, hl]) (by omega)

set_option maxHeartbeats 4000000 in
theorem listOf_any (ki : Int) (k : Nat) (n o : Int) (A B : Option Addr) (la ca lb cb : Nat) (X Y : List Int) (w : World) (hki : ki = k) (hk : k ≤ 3) (hX : Ints w w.heap.size A la X) (hY : Ints w w.heap.size B lb Y) (hla : la ≤ 9223372036854775807) (hlb : lb ≤ 9223372036854775807) (hca : la ≤ ca) (hcb : lb ≤ cb) :
    Calls Try.prog 112 #[.agg #[.int .i64 n, .int .i64 o, .slice A la ca, .slice B lb cb], .int .i64 ki] w fun e' w' => ∃ v, e' = .returned v ∧ SliceOut w.heap.size w' v (kindsL n o X Y k) ∧ Below w.heap.size w w' := by
  subst hki
  cases hv : validB n o X Y
  · have hz := Lib.hid (kindsL_no (n := n) (o := o) (X := X) (Y := Y) (k := k) (by rw [hv]; simp))
    have b0 : Below w.heap.size w (w.alloc (.cells #[.int .i64 n, .int .i64 o, .slice A la ca, .slice B lb cb] 25)) := (Below.refl _ _).alloc (Nat.le_refl _) _
    have HX := Lib.hid (hX.next b0)
    have HY := Lib.hid (hY.next b0)
    have B0 := Lib.hid b0
    clear hX hY b0
    go_enter Try.func112, Try.ntmps112
    go_wp2_with (go_at_call 71; refine (valid_any _ _ _ _ _ _ _ _ X Y _ HX.out HY.out hla hlb hca hcb).mono ?_; rintro e1 w1 ⟨rfl, hb1⟩)
    go_ret
    exact ⟨_, rfl, by rw [hz.out]; exact SliceOut.nil, below_step B0.out hb1⟩
  · obtain ⟨m, e, b1, o1, b2, o2, rfl, rfl, rfl, rfl, hr, _, _, _, _, _⟩ := valid_data hv hX hY hca hcb
    have hz := Lib.hid (kindsL_yes (k := k) hv)
    have hm' := hr.hm'
    obtain ⟨W, hW⟩ : ∃ W, w.alloc (.cells #[.int .i64 m, .int .i64 e, .slice (some ⟨b1, o1, none⟩) la ca, .slice (some ⟨b2, o2, none⟩) lb cb] 25) = W := ⟨_, rfl⟩
    have k0 : Blk W w.heap.size 25 #[.int .i64 m, .int .i64 e, .slice (some ⟨b1, o1, none⟩) la ca, .slice (some ⟨b2, o2, none⟩) lb cb] := by
      subst hW; exact Blk.new w _ _
    have b0 : Below w.heap.size w W := by
      subst hW; exact (Below.refl _ _).alloc (Nat.le_refl _) _
    have HX := Lib.hid (hX.next b0)
    have HY := Lib.hid (hY.next b0)
    have K := Lib.hid k0
    have R0 := Lib.hid (hr.next b0)
    have B0 := Lib.hid b0
    have HW := Lib.hid hW
    have hs0 := k0.lt
    clear hX hY hr b0 hW k0
    go_enter Try.func112, Try.ntmps112
    go_wp2_with (fail)
    rw [HW.out]
    refine (valid_any _ _ _ _ _ _ _ _ X Y W HX.out HY.out hla hlb hca hcb).mono ?_
    rintro e1 w1 ⟨rfl, hb1⟩
    have K := Lib.hid (K.out.next hb1)
    have R1 := Lib.hid (R0.out.next hb1)
    have B1 := Lib.hid (below_step B0.out hb1)
    have hs1 := hb1.size
    clear hb1
    obtain ⟨c0, c1, c2, c3⟩ := blk4 K.out
    go_wp2_with (fail)
    refine (ofKind_any k m e _ _ la ca lb cb w1 hk).mono ?_
    rintro e2 w2 ⟨Br, Bp, rfl, h1, h2, h3, h4, hb2⟩
    have B2 := Lib.hid (below_step B1.out hb2)
    have SQ := Lib.hid (ofKind_seq m e b1 o1 la ca b2 o2 lb cb (tabOf X) (tabOf Y) w2 (R1.out.next hb2) hk h3 h4)
    have hs2 := hb2.size
    clear hb2 h3 h4
    have EG := Lib.hid (enters_of Try.func135 (by kernel_rfl) rfl)
    go_wp2_with (go_at_call 122; refine (collect_any m _ w2.heap.size m _ _ _ w2 EG.out SQ.out (by omega) (Nat.le_refl _)).mono ?_; rintro e3 w3 ⟨v, rfl, ho, hb3⟩)
    have hlen := selTo_len (m := m) (p := kindB m (tabOf Y) e k) m
    go_ret
    exact ⟨_, rfl, by rw [hz.out]; exact (sel_out ho rfl (by omega)).down (by omega), below_step B2.out hb3⟩

set_option maxHeartbeats 1000000 in
theorem kind0_any (n o : Int) (A B : Option Addr) (la ca lb cb : Nat) (X Y : List Int) (w : World) (hX : Ints w w.heap.size A la X) (hY : Ints w w.heap.size B lb Y) (hla : la ≤ 9223372036854775807) (hlb : lb ≤ 9223372036854775807) (hca : la ≤ ca) (hcb : lb ≤ cb) :
    Calls Try.prog 87 #[.agg #[.int .i64 n, .int .i64 o, .slice A la ca, .slice B lb cb]] w fun e' w' => ∃ v, e' = .returned v ∧ SliceOut w.heap.size w' v (kindsL n o X Y 0) ∧ Below w.heap.size w w' := by
  have b0 : Below w.heap.size w (w.alloc (.cells #[.int .i64 n, .int .i64 o, .slice A la ca, .slice B lb cb] 25)) := (Below.refl _ _).alloc (Nat.le_refl _) _
  have HX := Lib.hid (hX.next b0)
  have HY := Lib.hid (hY.next b0)
  have B0 := Lib.hid b0
  clear hX hY b0
  go_enter Try.func87, Try.ntmps87
  go_wp2_with (go_at_call 112; refine (listOf_any _ 0 _ _ _ _ _ _ _ _ X Y _ rfl (by decide) HX.out HY.out hla hlb hca hcb).mono ?_; rintro e1 w1 ⟨v, rfl, ho, hb1⟩)
  go_ret
  exact ⟨v, rfl, ho.down (by simp), below_step B0.out hb1⟩

end Go.Proofs.Ytlcpbdbdiahmjaa



/- The lists of the elements of a kind, as the reading side makes them. -/
namespace Go.Proofs.Ytlcpbdbdiahmjaa
open Go.RowKit
set_option maxRecDepth 100000

theorem own_lit_K {w : World} {base : Nat} {e : TypeId} (l : List Value) (hb : base ≤ w.heap.size) (hl : l.length ≤ maxLen) :
    (w.alloc (.cells l.toArray e)).ownsRow base e 1 (.slice (some ⟨w.heap.size, 0, none⟩) l.length l.length) l.length l :=
  ⟨by simp, .inr ⟨w.heap.size, l.length, l.toArray, rfl, hb, heap_alloc_new w _, Nat.le_refl _, hl, by simp, by simp⟩⟩

set_option maxHeartbeats 4000000 in
theorem l3All_any (ki : Int) (k : Nat) (n o : Int) (A B : Option Addr) (la ca lb cb : Nat) (X Y : List Int) (w : World) (hki : ki = k) (hk : k ≤ 3) (hX : Ints w w.heap.size A la X) (hY : Ints w w.heap.size B lb Y) (hla : la ≤ 9223372036854775807) (hlb : lb ≤ 9223372036854775807) (hca : la ≤ ca) (hcb : lb ≤ cb) :
    Calls Try.prog 110 #[.agg #[.int .i64 n, .int .i64 o, .slice A la ca, .slice B lb cb], .int .i64 ki] w fun e' w' => ∃ v, e' = .returned v ∧ SliceOut w.heap.size w' v (kindsL n o X Y k) ∧ Below w.heap.size w w' := by
  subst hki
  obtain ⟨i0, hi, hz0, hz1, hz2⟩ := info_parts int_info
  obtain ⟨W, hW⟩ : ∃ W, (w.alloc (.cells #[.int .i64 n, .int .i64 o, .slice A la ca, .slice B lb cb] 25)).alloc (.cells #[] 3) = W := ⟨_, rfl⟩
  have k0 : Blk W w.heap.size 25 #[.int .i64 n, .int .i64 o, .slice A la ca, .slice B lb cb] := by
    subst hW; exact (Blk.new w _ _).alloc _
  have b0 : Below w.heap.size w W := by
    subst hW; exact ((Below.refl _ _).alloc (Nat.le_refl _) _).alloc (by simp) _
  have o0 : W.ownsRow w.heap.size 3 1 (.slice (some ⟨w.heap.size + 1, 0, none⟩) 0 0) 0 [] := by
    subst hW
    have := own_lit_K (w := w.alloc (.cells #[.int .i64 n, .int .i64 o, .slice A la ca, .slice B lb cb] 25)) (base := w.heap.size) (e := 3) [] (by simp) (by unfold maxLen; simp)
    simpa using this
  have HX := Lib.hid (hX.next b0)
  have HY := Lib.hid (hY.next b0)
  have K := Lib.hid k0
  have B0 := Lib.hid b0
  have O0 := Lib.hid o0
  have HW := Lib.hid hW
  have hs0 := k0.lt
  cases hv : validB n o X Y
  · have hz := Lib.hid (kindsL_no (n := n) (o := o) (X := X) (Y := Y) (k := k) (by rw [hv]; simp))
    obtain ⟨c0, c1, c2, c3⟩ := blk4 K.out
    clear hX hY b0 k0 o0 hW
    go_enter Try.func110, Try.ntmps110
    go_wp2_with (fail)
    rw [HW.out]
    refine (specValid_any _ _ _ _ _ _ _ _ X Y W HX.out HY.out hla hlb hca hcb).mono ?_
    rintro e1 w1 ⟨rfl, hb1⟩
    have O1 := Lib.hid (own_nextK O0.out hb1)
    go_wp2
    go_ret
    exact ⟨_, rfl, by rw [hz.out]; exact SliceOut.of_row (n := 0) O1.out rfl (by omega), below_step B0.out hb1⟩
  · obtain ⟨m, e, b1, o1, b2, o2, rfl, rfl, rfl, rfl, hr, _, _, _, _, _⟩ := valid_data hv hX hY hca hcb
    have hz := Lib.hid (kindsL_yes (k := k) hv)
    have hm' := hr.hm'
    have R0 := Lib.hid (hr.next b0)
    have HR0 := Lib.hid hr
    obtain ⟨c0, c1, c2, c3⟩ := blk4 K.out
    clear hX hY b0 k0 o0 hW hr
    go_enter Try.func110, Try.ntmps110
    go_wp2_with (fail)
    rw [HW.out]
    refine (specValid_any _ _ _ _ _ _ _ _ X Y W HX.out HY.out hla hlb hca hcb).mono ?_
    rintro e1 w1 ⟨rfl, hb1⟩
    have K := Lib.hid (K.out.next hb1)
    have R1 := Lib.hid (R0.out.next hb1)
    have B1 := Lib.hid (below_step B0.out hb1)
    have O1 := Lib.hid (own_nextK O0.out hb1)
    have hs1 := hb1.size
    have k1 : w.heap.size < w1.heap.size := by omega
    clear hb1 c0 c1 c2 c3
    obtain ⟨c0, c1, c2, c3⟩ := blk4 K.out
    go_wp2
    go_loopg [5, 14] m (fun g vs vi wr => ∃ j : Nat, j ≤ m ∧ m ≤ j + g ∧ vi = .int .i64 j ∧ wr.ownsRow w.heap.size 3 1 vs (selTo m (kindB m (tabOf Y) e k) j).length (finV (selTo m (kindB m (tabOf Y) e k) j)) ∧ Below w.heap.size w wr ∧ Blk wr w.heap.size 25 #[.int .i64 m, .int .i64 e, .slice (some ⟨b1, o1, none⟩) la ca, .slice (some ⟨b2, o2, none⟩) lb cb] ∧ RingAt wr m e b1 o1 la ca b2 o2 lb cb (tabOf X) (tabOf Y))
    case atStart => exact ⟨0, Nat.zero_le _, by omega, rfl, O1.out, B1.out, K.out, R1.out⟩
    case round =>
      obtain ⟨j, hj, hg, rfl, hown, hb, hK, hR⟩ := hrel
      obtain ⟨d0, d1, d2, d3⟩ := blk4 hK
      have hsz := hb.size
      have KK := Lib.hid hK
      have RR := Lib.hid hR
      have OW := Lib.hid hown
      have BW := Lib.hid hb
      have hln := selTo_len (m := m) (p := kindB m (tabOf Y) e k) j
      clear hK hR hown hb c0 c1 c2 c3
      by_cases hlt : j < m
      · cases hq : kindB m (tabOf Y) e k j
        · have HQ := Lib.hid (selTo_no (m := m) hq)
          go_wp2_with (go_at_call 121; ((with_reducible refine (l3Is_any j k m e b1 o1 la ca b2 o2 lb cb (tabOf X) (tabOf Y) _ RR.out hlt hk).mono ?_); rintro e3 w3 ⟨rfl, hb3⟩; have B3 := Lib.hid (below_step BW.out hb3); have O3 := Lib.hid (own_nextK OW.out hb3); have K3 := Lib.hid (KK.out.next hb3); have R3 := Lib.hid (RR.out.next hb3); clear hb3))
          go_roundg (m - (j + 1))
          case measure => omega
          case rel => exact ⟨j + 1, by omega, by omega, by go_num, by rw [HQ.out]; exact O3.out, B3.out, K3.out, R3.out⟩
        · have HQ := Lib.hid (selTo_yes hlt hq)
          go_wp2_with (first
            | (go_at_call 121; ((with_reducible refine (l3Is_any j k m e b1 o1 la ca b2 o2 lb cb (tabOf X) (tabOf Y) _ RR.out hlt hk).mono ?_); rintro e3 w3 ⟨rfl, hb3⟩; have B3 := Lib.hid (below_step BW.out hb3); have O3 := Lib.hid (own_nextK OW.out hb3); have K3 := Lib.hid (KK.out.next hb3); have R3 := Lib.hid (RR.out.next hb3); have hs3 := hb3.size; clear hb3))
            | (at_builtin; refine wpList_append_own _ rfl _ _ 23 rfl w.heap.size 3 i0 (.int .i64 0) 1 8 Try.underlying23 hi hz0 hz1 hz2 rfl (by decide) _ _ _ rfl (O3.out.alloc _) ⟨w3.heap.size, 0, none⟩ 1 1 [.int .i64 j] rfl rfl (by intro i u hi; match i, hi with | 0, hi => simp at hi; subst hi; simp [Addr.add]) (by intro u hu; simp at hu; subst hu; rfl) (by unfold maxLen; omega) (by omega) (by simp; omega) ?_; intro v5 w5 hown5 hg5 _; have kp := append_keeps K3.out O3.out (by decide) hg5 (Nat.le_trans hsz hs3); have bb := (Below.refl w3.heap.size w3).alloc (Nat.le_refl _) (.cells #[.int .i64 j] 3); have B5 := Lib.hid (B3.out.trans kp.2.1); have K5 := Lib.hid kp.1; have O5 := Lib.hid (show w5.ownsRow w.heap.size 3 1 v5 (selTo m (kindB m (tabOf Y) e k) (j + 1)).length (finV (selTo m (kindB m (tabOf Y) e k) (j + 1))) by rw [HQ.out]; simpa [finV] using hown5); clear hown5 hg5 kp bb))
          have R5 := Lib.hid (HR0.out.next B5.out)
          go_roundg (m - (j + 1))
          case measure => omega
          case rel => exact ⟨j + 1, by omega, by omega, by go_num, O5.out, B5.out, K5.out, R5.out⟩
      · have hjm : j = m := by omega
        subst hjm
        go_wp2
        go_ret
        exact ⟨_, rfl, by rw [hz.out]; exact sel_out OW.out rfl (by omega), BW.out⟩

set_option maxHeartbeats 1000000 in
theorem skind0_any (n o : Int) (A B : Option Addr) (la ca lb cb : Nat) (X Y : List Int) (w : World) (hX : Ints w w.heap.size A la X) (hY : Ints w w.heap.size B lb Y) (hla : la ≤ 9223372036854775807) (hlb : lb ≤ 9223372036854775807) (hca : la ≤ ca) (hcb : lb ≤ cb) :
    Calls Try.prog 85 #[.agg #[.int .i64 n, .int .i64 o, .slice A la ca, .slice B lb cb]] w fun e' w' => ∃ v, e' = .returned v ∧ SliceOut w.heap.size w' v (kindsL n o X Y 0) ∧ Below w.heap.size w w' := by
  have b0 : Below w.heap.size w (w.alloc (.cells #[.int .i64 n, .int .i64 o, .slice A la ca, .slice B lb cb] 25)) := (Below.refl _ _).alloc (Nat.le_refl _) _
  have HX := Lib.hid (hX.next b0)
  have HY := Lib.hid (hY.next b0)
  have B0 := Lib.hid b0
  clear hX hY b0
  go_enter Try.func85, Try.ntmps85
  go_wp2_with (go_at_call 110; refine (l3All_any _ 0 _ _ _ _ _ _ _ _ X Y _ rfl (by decide) HX.out HY.out hla hlb hca hcb).mono ?_; rintro e1 w1 ⟨v, rfl, ho, hb1⟩)
  go_ret
  exact ⟨v, rfl, ho.down (by simp), below_step B0.out hb1⟩

end Go.Proofs.Ytlcpbdbdiahmjaa



/- Plain facts: inverses, orders of units, and that they divide the number of units. No program in sight. -/
namespace Go.Proofs.Ytlcpbdbdiahmjaa
open Go.RowKit

section
variable {m e : Nat} {S P : Nat → Nat}
theorem inv_data {a : Nat} (h : 0 ≤ invN m P e a) : ∃ c, c < m ∧ invN m P e a = c ∧ P (a * m + c) = e := by
  obtain ⟨c, hc⟩ := Int.eq_ofNat_of_zero_le h
  obtain ⟨h1, h2⟩ := idx_data hc
  rw [rowL_length] at h1
  rw [rowL_get h1] at h2
  exact ⟨c, h1, hc, by omega⟩
theorem RTab.inv_uniq (R : RTab m S P e) {a b c : Nat} (ha : a < m) (hb : b < m) (hc : c < m) (h1 : P (a * m + b) = e) (h2 : P (a * m + c) = e) : b = c :=
  unit_inj R.p ⟨b, hb, h1⟩ ha hb hc (by rw [R.p.comm hb ha, R.p.comm hc ha, h1, h2])
theorem RTab.inv_eq (R : RTab m S P e) {a b : Nat} (ha : a < m) (hb : b < m) (h : P (a * m + b) = e) : invN m P e a = b := by
  obtain ⟨c, hc, e1, e2⟩ := inv_data (inv_unit.2 ⟨b, hb, h⟩)
  rw [e1, R.inv_uniq ha hb hc h e2]
theorem RTab.uord (R : RTab m S P e) {a : Nat} (ha : a < m) (hu : UnitAt m P e a) : IsOrdZ m P e a (ordZ m P e a) := ordZ_spec R.pl R.p R.he hu ha
end

end Go.Proofs.Ytlcpbdbdiahmjaa

