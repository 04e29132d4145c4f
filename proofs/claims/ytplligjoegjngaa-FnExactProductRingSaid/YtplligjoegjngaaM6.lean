/- Regions that draw their order and make blocks: one operation floats behind the first store. -/
import Derived.Test.YtplligjoegjngaaM5
namespace Go.Proofs.Ytplligjoegjngaa
open Go.RowKit

section
variable {P : Program} {ops : Array Oper} {C : World → Prop} {mk : Nat → Bool} {Φ : Nat → Value → World → Prop} {vs : Nat → Value}

def wpAnyF (P : Program) (ops : Array Oper) (C : World → Prop) (mk : Nat → Bool) (Φ : Nat → Value → World → Prop) (vs : Nat → Value) (n : Nat) (L : Array Bool → Act → Prop) : Nat → Array Bool → Act → Prop
  | 0, listed, a => L listed a
  | f + 1, listed, a =>
    (∃ i ∈ Region.ready .any ops listed, i < n) ∧ ∀ i ∈ Region.ready .any ops listed, i < n → vOpD P ops C mk Φ vs i (wpAnyF P ops C mk Φ vs n L f (listed.setIfInBounds i true)) a

theorem wpAnyF_first {n i : Nat} {oi : Oper} {v : Value} {L : Array Bool → Act → Prop} (hi : ops[i]? = some oi) (hsel : ∀ (j : Nat) (o : Oper) cs b, ops[j]? = some o → o.op ≠ .select cs b)
    (hin : i < n) (hdone : ∀ listed a, L listed a → ∀ j ∈ Region.ready .any ops listed, n ≤ j) :
    ∀ (f : Nat) (listed : Array Bool) (a : Act),
      (∀ j oj, ops[j]? = some oj → j ≠ i → listed.getD j true = false → (∀ e ∈ oj.after, Region.binds .any e = true → e.on ≠ i) → oi.apart ops oj = true) →
      i ∈ Region.ready .any ops listed → YieldsVD P ops C mk Φ vs i oi v a →
      wpAnyF P ops C mk Φ vs n L f (listed.setIfInBounds i true) (a.put oi.dst v) → wpAnyF P ops C mk Φ vs n L (f + 1) listed a := by
  intro f
  induction f with
  | zero =>
    intro listed a _ hr hy H
    refine ⟨⟨i, hr, hin⟩, fun j hj hjn => ?_⟩
    by_cases hji : j = i
    · subst hji; exact hy.vOpD hi H
    · have := hdone _ _ H j (ready_mono hj hji)
      omega
  | succ f ih =>
    intro listed a hfree hr hy H
    have hun := (mem_ready.1 hr).1
    refine ⟨⟨i, hr, hin⟩, fun j hj hjn => ?_⟩
    by_cases hji : j = i
    · subst hji; exact hy.vOpD hi H
    · have h1 := H.2 j (ready_mono hj hji) hjn
      obtain ⟨hjun, oj, hoj, hall⟩ := mem_ready.1 hj
      have hnot : ∀ e ∈ oj.after, Region.binds .any e = true → e.on ≠ i := fun e he hb heq => by
        have h1 := hall e he hb
        rw [heq, getD_both hun] at h1
        cases h1
      have h2 := vOp_putD hoj (hfree j oj hoj hji hjun hnot) (fun cs b => hsel i oi cs b hi) (fun cs b => hsel j oj cs b hoj) hy h1
      have hfree' : ∀ k ok, ops[k]? = some ok → k ≠ i → (listed.setIfInBounds j true).getD k true = false →
          (∀ e ∈ ok.after, Region.binds .any e = true → e.on ≠ i) → oi.apart ops ok = true := fun k ok hk hki hun hno => by
        refine hfree k ok hk hki ?_ hno
        by_cases hjk : j = k
        · subst hjk; exact hjun
        · rw [getD_set_ne true hjk] at hun; exact hun
      refine vOp_monoD (fun a' h3 => ih (listed.setIfInBounds j true) a' hfree' (ready_mono hr (Ne.symm hji)) h3.1 ?_) h2
      rw [Array.setIfInBounds_comm _ _ hji]
      exact h3.2

theorem wpAnyF_lex {n g : Nat} {Lq : Act → Prop} (hsel : Region.noSelect ops = true) (hn : n < ops.size) :
    ∀ (l : List Oper) (k : Nat) (listed : Array Bool) (a : Act), (∀ j, j < l.length → l[j]? = ops[k + j]?) → k + l.length = n → listed.size = ops.size → (∀ j, j < k → listed.getD j false = true) →
    Region.lexHead .any ops g l.length k listed = true → wpVD P ops C mk Φ vs Lq k l a →
    wpAnyF P ops C mk Φ vs n (fun listed' a' => Region.seqB .any ops g n listed' = true ∧ (∀ j, j < n → listed'.getD j false = true) ∧ Lq a') l.length listed a
  | [], k, listed, a, _, hk, _, hall, hB, h => by
    have : k = n := by simpa using hk
    subst this
    exact ⟨by simpa [Region.lexHead] using hB, hall, h⟩
  | o :: l, k, listed, a, hl, hk, hsz0, hall, hB, h => by
    have h0 : ops[k]? = some o := by simpa using (hl 0 (by simp)).symm
    simp only [List.length_cons, Region.lexHead, Bool.and_eq_true] at hB
    obtain ⟨⟨hr, hf⟩, hB'⟩ := hB
    have hkn : k < n := by simp only [List.length_cons] at hk; omega
    have hr' : k ∈ Region.ready .any ops listed := by simpa using hr
    obtain ⟨v, hy, hK⟩ := h
    have hsz : k < listed.size := by rw [hsz0]; omega
    have hall' : ∀ j, j < k + 1 → (listed.setIfInBounds k true).getD j false = true := fun j hj => by
      by_cases e : k = j
      · subst e; simp [hsz]
      · rw [getD_set_ne false e]; exact hall j (by omega)
    exact wpAnyF_first h0 (Region.noSelect_spec hsel) hkn (fun listed' a' hL => seqB_ready hL.1) l.length listed a (Region.free_spec h0 hf) hr' hy
      (wpAnyF_lex hsel hn l (k + 1) _ _ (fun j hj => by have := hl (j + 1) (by simp; omega); simpa [Nat.add_assoc, Nat.add_comm 1 j] using this) (by simp only [List.length_cons] at hk; omega) (by simp [hsz0]) hall' hB' hK)
end

section
variable {P : Program} {ops : Array Oper} {mk : Nat → Bool} {Φ : Nat → Value → World → Prop}

/-- An operation whose result leans on its operands alone. -/
def PureOp (P : Program) (o : Oper) : Prop := ∀ (ev : Operand → Value) (C : World → Prop) (w : World) (v : Value), Oper.quietUpon P C w v ((execOp ev o).run P w) → ∀ w', (execOp ev o).run P w' = .ok (.value v) w'
/-- What is asked of the floating operation s: the first one of the tail waits for all others of the head, the rest of the tail for the first; s is apart from all that neither wait for it nor it for them. -/
def floatB (ops : Array Oper) (n s : Nat) : Bool :=
  (List.range n).all (fun j => j == s || Region.waitsFor .any ops n j) && (List.range ops.size).all (fun t => decide (t ≤ n) || Region.waitsFor .any ops t n) &&
    (List.range ops.size).all (fun j => j == s || Region.waitsFor .any ops s j || Region.waitsFor .any ops j s || (match ops[s]?, ops[j]? with | some a, some b => a.apart ops b | _, _ => false))

theorem wpAny_of_F (hp : Probe P) {n g s : Nat} {os : Oper} {w0 : World} {L : (Nat → Value) → Array Bool → Act → Prop} {Q' : Exit → Act → World → Prop} {Sh : Nat → Value → Prop} (hsn : s < n) (hos : ops[s]? = some os) (hog : os.guard = none) (hpure : PureOp P os) (hms : mk s = false) (hflo : floatB ops n s = true) (hns : Region.noSelect ops = true)
    (hQ : ∀ v c a w, Q' (.panic c) (a.put os.dst v) w → Q' (.panic c) a w)
    (hΦ : ∀ i v w w', Φ i v w → Below w.heap.size w w' → Φ i v w') (hSh : ∀ i v w, mk i = true → Φ i v w → Sh i v)
    (hL : ∀ listed a w1 (val : Nat → Value), Below w0.heap.size w0 w1 → (∀ i, mk i = true → listed.getD i false = true → Φ i (val i) w1) → ApartVD mk listed val w1 → L val listed a → wpAny P .any ops Q' g listed a w1) :
    ∀ (f : Nat) (listed : Array Bool) (a : Act) (w1 : World) (val : Nat → Value), (∀ t, n ≤ t → listed.getD t false = false) → (∀ i, mk i = true → Sh i (val i)) → Below w0.heap.size w0 w1 → (∀ i, mk i = true → listed.getD i false = true → Φ i (val i) w1) → ApartVD mk listed val w1 →
      (∀ W, Below w0.heap.size w0 W → ∀ vs, (∀ i, mk i = true → Sh i (vs i)) → (∀ i, mk i = true → listed.getD i false = true → vs i = val i) → wpAnyF P ops (extC W) mk Φ vs n (L vs) f listed a) → wpAny P .any ops Q' (f + g) listed a w1
  | 0, listed, a, w1, val, _, hv, hb, hf, hap, h => by
    rw [Nat.zero_add]
    exact hL _ _ _ _ hb hf hap (h w0 (Below.refl _ _) val hv (fun _ _ _ => rfl))
  | f + 1, listed, a, w1, val, htl, hv, hb, hf, hap, h => by
    rw [show f + 1 + g = (f + g) + 1 by omega]
    have h0 := h w1 hb val hv (fun _ _ _ => rfl)
    have tlset : ∀ i, i < n → ∀ t, n ≤ t → (listed.setIfInBounds i true).getD t false = false := fun i hi t ht => by
      rw [getD_set_ne false (by omega)]; exact htl t ht
    by_cases hbad : ∃ i ∈ Region.ready .any ops listed, n ≤ i
    · -- a tail operation could come up: take s first
      obtain ⟨i, hi, hni⟩ := hbad
      obtain ⟨_, oi, hoi, hdep⟩ := mem_ready.1 hi
      have hilt : i < ops.size := (Array.getElem?_eq_some_iff.1 hoi).1
      unfold floatB at hflo
      rw [Bool.and_eq_true, Bool.and_eq_true] at hflo
      obtain ⟨⟨hf1, hf2⟩, hf3⟩ := hflo
      have hin : i = n := by
        have h1 := List.all_eq_true.1 hf2 i (List.mem_range.2 hilt)
        simp only [Bool.or_eq_true, decide_eq_true_eq] at h1
        rcases h1 with h1 | h1
        · omega
        · obtain ⟨o', ho', e, he, hb', hon⟩ := Region.waitsFor_spec h1
          have : o' = oi := Option.some.inj (ho'.symm.trans hoi)
          subst this
          have h2 := hdep e he hb'
          rw [hon, htl n (Nat.le_refl _)] at h2
          cases h2
      subst hin
      have hsr : s ∈ Region.ready .any ops listed := by
        obtain ⟨i0, hi0, hlt0⟩ := h0.1
        have h1 := List.all_eq_true.1 hf1 i0 (List.mem_range.2 hlt0)
        simp only [Bool.or_eq_true, beq_iff_eq] at h1
        rcases h1 with h1 | h1
        · rw [← h1]; exact hi0
        · obtain ⟨o', ho', e, he, hb', hon⟩ := Region.waitsFor_spec h1
          have : o' = oi := Option.some.inj (ho'.symm.trans hoi)
          subst this
          have h2 := hdep e he hb'
          rw [hon, getD_both (mem_ready.1 hi0).1] at h2
          cases h2
      obtain ⟨hsun, os', hos', hsdep⟩ := mem_ready.1 hsr
      have : os' = os := Option.some.inj (hos'.symm.trans hos)
      subst this
      have hwant : Region.wanted os' (yielded ops a.tmps) = true := by simp [Region.wanted, hog]
      have quietOf : ∀ W, Below w0.heap.size w0 W → ∀ vs, (∀ i, mk i = true → Sh i (vs i)) → (∀ i, mk i = true → listed.getD i false = true → vs i = val i) → ∃ v, (∀ w', (execOp a.eval os').run P w' = .ok (.value v) w') ∧ wpAnyF P ops (extC W) mk Φ vs i (L vs) f (listed.setIfInBounds s true) (a.put os'.dst v) := fun W hW vs h1 h2 => by
        obtain ⟨v, hy, hK⟩ := yields_of_vOpD hos ((h W hW vs h1 h2).2 s hsr hsn)
        rcases hy with ⟨e, _⟩ | ⟨_, _, hq⟩ | ⟨_, e, _⟩
        · rw [hms] at e; cases e
        · exact ⟨v, hpure a.eval _ W v (hq W (extC_of (Below.refl _ _))), hK⟩
        · rw [hwant] at e; cases e
      obtain ⟨v, hy, _⟩ := quietOf w0 (Below.refl _ _) val hv (fun _ _ _ => rfl)
      refine wpAny_first hos (Region.noSelect_spec hns) (hQ v) (f + g) listed a w1 (fun j oj hj hne hun hno => ?_) hsr (.inl ⟨hwant, hy⟩) ?_
      · have h1 := List.all_eq_true.1 hf3 j (List.mem_range.2 (Array.getElem?_eq_some_iff.1 hj).1)
        simp only [Bool.or_eq_true, beq_iff_eq] at h1
        rcases h1 with ((h1 | h1) | h1) | h1
        · exact absurd h1 hne
        · obtain ⟨o', ho', e, he, hb', hon⟩ := Region.waitsFor_spec h1
          have : o' = os' := Option.some.inj (ho'.symm.trans hos)
          subst this
          have h2 := hsdep e he hb'
          rw [hon, getD_both hun] at h2
          cases h2
        · obtain ⟨o', ho', e, he, hb', hon⟩ := Region.waitsFor_spec h1
          have : o' = oj := Option.some.inj (ho'.symm.trans hj)
          subst this
          exact absurd hon (hno e he hb')
        · rw [hos, hj] at h1
          exact h1
      · have hne : ∀ j, mk j = true → j ≠ s := fun j hj e => by rw [e, hms] at hj; cases hj
        refine wpAny_of_F hp hsn hos hog hpure hms (by unfold floatB; rw [hf1, hf2, hf3]; rfl) hns hQ hΦ hSh hL f _ _ w1 val (tlset s hsn) hv hb (fun j hj hl => ?_) (hap.quiet hms) (fun W hW vs hvs hag => ?_)
        · rw [getD_set_ne false (Ne.symm (hne j hj))] at hl
          exact hf j hj hl
        · obtain ⟨v2, hy2, hK⟩ := quietOf W hW vs hvs (fun j hj hl => hag j hj (by rw [getD_set_ne false (Ne.symm (hne j hj))]; exact hl))
          have e2 : v2 = v := by
            have := (hy2 w0).symm.trans (hy w0)
            injection this with this
            injection this
          rw [e2] at hK
          exact hK
    · have hlt : ∀ i ∈ Region.ready .any ops listed, i < n := fun i hi => by
        rcases Nat.lt_or_ge i n with h1 | h1
        · exact h1
        · exact absurd ⟨i, hi, h1⟩ hbad
      refine ⟨fun e => (by obtain ⟨i, hi, _⟩ := h0.1; rw [e] at hi; cases hi), fun i hi => ?_⟩
      have hin := hlt i hi
      have hun := (mem_ready.1 hi).1
      obtain ⟨oi, hoi, hdep⟩ := (mem_ready.1 hi).2
      have hne : ∀ j, listed.getD j false = true → j ≠ i := fun j hj e => by
        subst e
        rw [getD_both hun] at hj
        cases hj
      have hset : ∀ j, j ≠ i → (listed.setIfInBounds i true).getD j false = true → listed.getD j false = true := fun j hj e => by
        rw [getD_set_ne false (Ne.symm hj)] at e; exact e
      obtain ⟨v1, hy1, _⟩ := yields_of_vOpD hoi (h0.2 i hi hin)
      unfold wpOp
      simp only [hoi]
      rcases hy1 with ⟨hmk, hw, hm, _⟩ | ⟨hmk, hw, hq⟩ | ⟨hmk, hw, rfl⟩
      · rw [if_pos hw]
        refine .inl (wp_of_makesD (hm w1 (extC_of (Below.refl _ _)) (fun e he hbd hk => hf e.on hk (hdep e he hbd))) fun u w2 hb2 hu hfr => ?_)
        refine wpAny_of_F hp hsn hos hog hpure hms hflo hns hQ hΦ hSh hL f _ _ w2 (fun j => if j = i then u else val j) (tlset i hin) (fun j hj => (by
          by_cases e : j = i
          · subst e; simp only [if_true]; exact hSh _ _ _ hj hu
          · simp only [e, if_false]; exact hv j hj)) (hb.trans (hb2.mono hb.size)) (fun j hj hl => ?_) (hap.made hb2 hfr) (fun W hW vs hvs hag => ?_)
        · by_cases e : j = i
          · subst e; simp only [if_true]; exact hu
          · simp only [e, if_false]; exact hΦ _ _ _ _ (hf j hj (hset j e hl)) hb2
        · have h1 := h W hW vs hvs (fun j hj hl => by
            have hji := hne j hl
            have := hag j hj (by rw [getD_set_ne false (Ne.symm hji)]; exact hl)
            simpa [hji] using this)
          obtain ⟨v2, hy2, hK⟩ := yields_of_vOpD hoi (h1.2 i hi hin)
          have hv2 : v2 = vs i := by
            rcases hy2 with ⟨_, _, _, e⟩ | ⟨e, _⟩ | ⟨e, _⟩
            · exact e
            · rw [hmk] at e; cases e
            · rw [hmk] at e; cases e
          have hvi : vs i = u := by
            have := hag i hmk (by
              have hsz : i < listed.size := by
                rcases Nat.lt_or_ge i listed.size with h' | h'
                · exact h'
                · simp [Array.getElem?_eq_none h'] at hun
              simp [hsz])
            simpa using this
          rw [hv2, hvi] at hK
          exact hK
      · rw [if_pos hw]
        refine .inl (wp_of_quietE (hq w1 (extC_of (Below.refl _ _))) fun w2 hb2 => ?_)
        refine wpAny_of_F hp hsn hos hog hpure hms hflo hns hQ hΦ hSh hL f _ _ w2 val (tlset i hin) hv (hb.trans (hb2.mono hb.size)) (fun j hj hl => ?_) ((hap.next hb2).quiet hmk) (fun W hW vs hvs hag => ?_)
        · have hji : j ≠ i := fun e => by rw [e, hmk] at hj; cases hj
          exact hΦ _ _ _ _ (hf j hj (hset j hji hl)) hb2
        · have hag' : ∀ j, mk j = true → listed.getD j false = true → vs j = val j := fun j hj hl => hag j hj (by
            rw [getD_set_ne false (Ne.symm (hne j hl))]; exact hl)
          obtain ⟨v2, hy2, hK⟩ := yields_of_vOpD hoi ((h W hW vs hvs hag').2 i hi hin)
          obtain ⟨v0, hy0, _⟩ := yields_of_vOpD hoi ((h w0 (Below.refl _ _) vs hvs hag').2 i hi hin)
          have q0 : ∀ w, extC w0 w → oi.quietAt P a (extC w0) w v0 := by
            rcases hy0 with ⟨e, _⟩ | ⟨_, _, e⟩ | ⟨_, e, _⟩
            · rw [hmk] at e; cases e
            · exact e
            · rw [hw] at e; cases e
          have q2 : ∀ w, extC W w → oi.quietAt P a (extC W) w v2 := by
            rcases hy2 with ⟨e, _⟩ | ⟨_, _, e⟩ | ⟨_, e, _⟩
            · rw [hmk] at e; cases e
            · exact e
            · rw [hw] at e; cases e
          have e1 : v0 = v1 := quiet_det hp (q0 w1 (extC_of hb)) (hq w1 (extC_of (Below.refl _ _)))
          have e2 : v0 = v2 := quiet_det hp (q0 W (extC_of hW)) (q2 W (extC_of (Below.refl _ _)))
          rw [← e2, e1] at hK
          exact hK
      · rw [if_neg (by rw [hw]; simp)]
        refine wpAny_of_F hp hsn hos hog hpure hms hflo hns hQ hΦ hSh hL f _ _ w1 val (tlset i hin) hv hb (fun j hj hl => ?_) (hap.quiet hmk) (fun W hW vs hvs hag => ?_)
        · have hji : j ≠ i := fun e => by rw [e, hmk] at hj; cases hj
          exact hf j hj (hset j hji hl)
        · have hag' : ∀ j, mk j = true → listed.getD j false = true → vs j = val j := fun j hj hl => hag j hj (by
            rw [getD_set_ne false (Ne.symm (hne j hl))]; exact hl)
          obtain ⟨v2, hy2, hK⟩ := yields_of_vOpD hoi ((h W hW vs hvs hag').2 i hi hin)
          have e2 : v2 = undef := by
            rcases hy2 with ⟨e, _⟩ | ⟨_, e, _⟩ | ⟨_, _, e⟩
            · rw [hmk] at e; cases e
            · rw [hw] at e; cases e
            · exact e
          rw [e2] at hK
          exact hK

/-- A region of quiet operations and makers ahead of a tail in forced order, one operation of the head floating behind the tail's first. -/
theorem wp_region_float {id : Nat} {Q : Exit → Act → World → Prop} {a : Act} {w : World} {l : List Oper} (n s : Nat) (os : Oper) (mk : Nat → Bool) (Φ : Nat → Value → World → Prop) (Sh : Nat → Value → Prop) (vs0 : Nat → Value) (hp : Probe P) (hm : P.follows .mixedOrders = true)
    (hB : (Region.noSelect l.toArray && decide (n < l.toArray.size) && decide (s < n) && floatB l.toArray n s && Region.lexHead .any l.toArray (l.toArray.size - n) n 0 (Array.replicate l.toArray.size false)) = true)
    (hos : l.toArray[s]? = some os) (hog : os.guard = none) (hpure : PureOp P os) (hms : mk s = false) (hQ : ∀ v c a w, Q (.panic c) (a.put os.dst v) w → Q (.panic c) a w)
    (hΦ : ∀ i v w w', Φ i v w → Below w.heap.size w w' → Φ i v w') (hSh : ∀ i v w, mk i = true → Φ i v w → Sh i v) (hv0 : ∀ i, mk i = true → Sh i (vs0 i))
    (h : ∀ W, Below w.heap.size w W → ∀ vs, (∀ i, mk i = true → Sh i (vs i)) → wpVD P l.toArray (extC W) mk Φ vs (fun a' => ∀ w1, Below w.heap.size w w1 → (∀ i, i < n → mk i = true → Φ i (vs i) w1) → (∀ i j, i < n → j < n → i ≠ j → mk i = true → mk j = true → ∀ b, b ∈ blocksOf (vs i) → b ∉ blocksOf (vs j)) → wpList P l.toArray Q (l.drop n) a' w1) 0 (l.take n) a) :
    (Code.region id l.toArray true).wp P Q a w := by
  simp only [Bool.and_eq_true, decide_eq_true_eq] at hB
  obtain ⟨⟨⟨⟨hsel, hn⟩, hsn⟩, hflo⟩, hlex⟩ := hB
  have hn' : n < l.length := by simpa using hn
  have htl : (l.take n).length = n := by simp; omega
  have hdl : (l.drop n).length = l.toArray.size - n := by simp
  have bw : Below w.heap.size w w.drew := (Below.refl _ _).drew
  refine wp_region_any hm ?_
  have H := fun W (hW : Below w.heap.size w W) vs hvs => wpAnyF_lex (C := extC W) (mk := mk) (Φ := Φ) (vs := vs) (g := l.toArray.size - n) hsel hn (l.take n) 0 (Array.replicate l.toArray.size false) a (fun j hj => by
    have hj' : j < n := by rw [htl] at hj; exact hj
    simp [hj']) (by simpa using htl) (by simp) (fun j hj => absurd hj (by omega)) (by rw [htl]; exact hlex) (h W hW vs hvs)
  have := wpAny_of_F (Q' := Q) (w0 := w) (n := n) (g := l.toArray.size - n) (L := fun vs listed' a' => Region.seqB .any l.toArray (l.toArray.size - n) n listed' = true ∧ (∀ j, j < n → listed'.getD j false = true) ∧
      ∀ w1, Below w.heap.size w w1 → (∀ i, i < n → mk i = true → Φ i (vs i) w1) → (∀ i j, i < n → j < n → i ≠ j → mk i = true → mk j = true → ∀ b, b ∈ blocksOf (vs i) → b ∉ blocksOf (vs j)) → wpList P l.toArray Q (l.drop n) a' w1) hp hsn hos hog hpure hms hflo hsel hQ hΦ hSh
    (fun listed a' w1 val hb hf hap hL' => by
      have := wpAny_of_seq (md := .any) (Q' := Q) (l.drop n) n listed a' w1 (fun j => by simp [List.getElem?_drop]) (by rw [hdl]; exact hL'.1) (hL'.2.2 w1 hb (fun i hi hmk => hf i hmk (hL'.2.1 i hi)) (fun i j hi hj hne h1 h2 => hap.2 i j hne h1 h2 (hL'.2.1 i hi) (hL'.2.1 j hj)))
      rwa [hdl] at this)
    (l.take n).length (Array.replicate l.toArray.size false) a w.drew vs0 (fun t _ => getD_replicate_false _ _) hv0 bw (fun i _ hl => by rw [getD_replicate_false] at hl; cases hl) ⟨fun i _ hl => (by rw [getD_replicate_false] at hl; cases hl), fun i j _ _ _ hl => (by rw [getD_replicate_false] at hl; cases hl)⟩ (fun W hW vs hvs _ => H W hW vs hvs)
  rw [htl, show n + (l.toArray.size - n) = l.toArray.size by omega] at this
  exact this
end

theorem extract_pure {P : Program} {o : Oper} {x : Operand} {i : Nat} (hop : o.op = .extract x i) : PureOp P o := by
  intro ev C w v h w'
  simp only [execOp, hop] at h ⊢
  have key : (∃ u, ∀ w, (Instr.extract (ev x) i).run P w = .ok u w) ∨ (∃ e, ∀ w, (Instr.extract (ev x) i).run P w = .halt e w) := by
    unfold Instr.extract
    split
    · split
      · exact .inl ⟨_, fun _ => rfl⟩
      · exact .inr ⟨_, fun _ => rfl⟩
    · exact .inr ⟨_, fun _ => rfl⟩
  rcases key with ⟨u, hu⟩ | ⟨e, he⟩
  · simp only [Sem.run_bind, hu, Result.andThen_ok, Sem.run_pure, Oper.quietUpon] at h ⊢
    rw [h.2]
  · simp [he, Result.andThen, Oper.quietUpon] at h

end Go.Proofs.Ytplligjoegjngaa
