/- Texts of this seat in one: PT PU PV PW. -/
import Derived.Test.YtajoimopahibcaaGreatMR
import Derived.Test.YtajoimopahibcaaGreatMQ
import Derived.Test.YtajoimopahibcaaGreatMU
import Derived.Test.YtajoimopahibcaaGreatMB

/- The names of a quotient. -/
namespace Go.Proofs.YtajoimopahibcaaGreat
open Go.RowKit Go.Shelf
set_option maxRecDepth 100000

set_option maxHeartbeats 8000000 in
theorem qNames_any {m e b1 o1 la ca b2 o2 lb cb bm : Nat} {S P : Nat → Nat} {p : Nat → Bool} {vC : Value} (w : World) (hM : MapC 300 w bm (fmC m S p m)) (R : RTab m S P e) (hp : Idl m S P p) (hm' : m ≤ 16) :
    Calls Tryz.prog 73 #[.agg #[.int .i64 m, .int .i64 e, .slice (some ⟨b1, o1, none⟩) la ca, .slice (some ⟨b2, o2, none⟩) lb cb, vC, .map (some bm)]] w fun e' w' => ∃ v, e' = .returned v ∧ OwnK w.heap.size m (namK m S p m) v w' ∧ Below w.heap.size w w' := by
  obtain ⟨i0, hi, hz0, hz1, hz2⟩ := info_parts int_info
  obtain ⟨gQ, hgQ⟩ : ∃ g, w.heap.size = g := ⟨_, rfl⟩
  obtain ⟨W, hW⟩ : ∃ W, w.alloc (.cells #[.int .i64 m, .int .i64 e, .slice (some ⟨b1, o1, none⟩) la ca, .slice (some ⟨b2, o2, none⟩) lb cb, vC, .map (some bm)] 82) = W := ⟨_, rfl⟩
  have k0 : Blk W gQ 82 #[.int .i64 m, .int .i64 e, .slice (some ⟨b1, o1, none⟩) la ca, .slice (some ⟨b2, o2, none⟩) lb cb, vC, .map (some bm)] := by subst hW hgQ; exact Blk.new w _ _
  have b0 : Below w.heap.size w W := by subst hW; exact (Below.refl _ _).alloc (Nat.le_refl _) _
  have c0 := k0.cell 0
  simp at c0
  have hi6 := z6_info (cs := #[.int .i64 m, .int .i64 e, .slice (some ⟨b1, o1, none⟩) la ca, .slice (some ⟨b2, o2, none⟩) lb cb, vC, .map (some bm)]) rfl
  have lQ := k0.lt
  have B0 := Lib.hid b0
  have HM0 := Lib.hid (hM.next b0)
  have K0 := Lib.hid k0
  have HW := Lib.hid hW
  have HG := Lib.hid hgQ
  have szW := b0.size
  clear hM hW b0 k0
  rw [hgQ] at szW ⊢
  clear hgQ
  have hf0 : True := trivial
  go_enter Tryz.func73, Tryz.ntmps73
  go_upto_region 1 with (fail)
  rw [HW.out, HG.out]
  go_wp2_with (at_make; refine wpList_make_own _ rfl _ _ 23 rfl W.heap.size 3 i0 (.int .i64 0) 1 Tryz.underlying23 hi hz0 hz1 _ _ _ m rfl rfl rfl (by rw [hz2]; omega) (by unfold maxLen; omega) (Nat.le_refl _) ?_; intro w1 hown1 hg1; have O1 := Lib.hid hown1; have B1 := Lib.hid ((Below.refl W.heap.size W).grown hg1 (Nat.le_refl _) (by simp)); clear hown1 hg1; have c0 := (B1.out.cell (p := ⟨gQ, 0, none⟩) lQ).trans c0)
  go_loopg [3, 12] m (fun g2 vs vi wr => ∃ k : Nat, k ≤ m ∧ m ≤ k + g2 ∧ vi = .int .i64 k ∧ wr.ownsRow W.heap.size 3 1 vs k (numV k (namK m S p m)) ∧ Below W.heap.size W wr)
  case atStart => exact ⟨0, Nat.zero_le _, by omega, rfl, O1.out, B1.out⟩
  case round =>
    obtain ⟨k, hk, hg2, rfl, hown, hb⟩ := hrel
    have hsz := hb.size
    have OW := Lib.hid hown
    have BW := Lib.hid hb
    have KW := Lib.hid (K0.out.next hb)
    clear hown hb
    by_cases hlt : k < m
    · have HMW := Lib.hid (HM0.out.next BW.out)
      have hfm := fm_some (R.don_all hp hlt)
      obtain ⟨c, hc⟩ : ∃ c, namK m S p m k = c := ⟨_, rfl⟩
      obtain ⟨d, hd⟩ : ∃ d, ((leas m S p m)[namK m S p m k]?).getD 0 = d := ⟨_, rfl⟩
      rw [hd, hc] at hfm
      have HF := Lib.hid hfm
      have HC := Lib.hid hc
      clear hfm hd hc
      go_wp2_with (refine wpList_load_row rfl 82 (.tmp 1) rfl gQ rfl _ #[.int .i64 m, .int .i64 e, .slice (some ⟨b1, o1, none⟩) la ca, .slice (some ⟨b2, o2, none⟩) lb cb, vC, .map (some bm)] (0, 0) _ KW.out Tryz.underlying82 rfl hi6 ?_)
      refine (qNumber_any (m := m) (e := e) (b1 := b1) (o1 := o1) (la := la) (ca := ca) (b2 := b2) (o2 := o2) (lb := lb) (cb := cb) (vC := vC) (x := k) wr HMW.out (by omega) HF.out).mono ?_
      rintro e5 w5 ⟨rfl, hb5⟩
      have O5 := Lib.hid (own_nextK OW.out hb5)
      have B5 := Lib.hid (BW.out.trans (hb5.mono (by omega)))
      have wr2 : Below w5.heap.size w5 (w5.alloc (.cells #[.int .i64 (c : Int)] 3)) := (Below.refl _ _).alloc (Nat.le_refl _) _
      have hsz2 : W.heap.size ≤ w5.heap.size := B5.out.size
      clear hb5
      go_wp2_with (at_builtin; refine wpList_append_own _ rfl _ _ 23 rfl W.heap.size 3 i0 (.int .i64 0) 1 8 Tryz.underlying23 hi hz0 hz1 hz2 rfl (by decide) _ _ _ rfl (O5.out.alloc _) ⟨w5.heap.size, 0, none⟩ 1 1 [.int .i64 (c : Int)] rfl rfl (by intro i u hi; match i, hi with | 0, hi => simp at hi; subst hi; simp [Addr.add]) (by intro u hu; simp at hu; subst hu; rfl) (by unfold maxLen; omega) (by omega) (by simp; omega) ?_; intro v6 w6 hown6 hg6 _; have B6 := Lib.hid ((B5.out.trans (wr2.mono hsz2)).grown hg6 (Nat.le_trans hsz2 wr2.size) (fun k hk => (O5.out.lt k hk).1)); have O6 := Lib.hid (show w6.ownsRow W.heap.size 3 1 v6 (k + 1) (numV (k + 1) (namK m S p m)) by rw [numV_succ, HC.out]; exact hown6); clear hown6 hg6)
      go_roundg (m - (k + 1))
      case measure => omega
      case rel => exact ⟨k + 1, by omega, by omega, by go_num, O6.out, B6.out⟩
    · have hkm : k = m := by omega
      subst hkm
      go_wp2
      go_ret
      exact ⟨_, rfl, own_base OW.out szW, (HG.out ▸ B0.out).trans (BW.out.mono szW)⟩

end Go.Proofs.YtajoimopahibcaaGreat



/- Regions that draw their order: makers that lean on makers, whose values may be rings. -/
namespace Go.Proofs.YtajoimopahibcaaGreat
open Go.RowKit

section
variable {P : Program} {ops : Array Oper} {md : Region.Mode} {C : World → Prop} {mk : Nat → Bool} {Φ : Nat → Value → World → Prop} {vs : Nat → Value}

/-- The blocks that a value leads to: of a slice, a ring. -/
def blkR : Value → List Nat
  | .slice (some a) _ _ => [a.block]
  | .agg cs => sliceBlocks (cs.getD 2 undef) ++ sliceBlocks (cs.getD 3 undef)
  | _ => []
/-- A block that was made between two worlds. -/
def FreshInQ (w w' : World) (u : Value) : Prop := ∀ b, b ∈ blkR u → w.heap.size ≤ b ∧ b < w'.heap.size
/-- A maker: from each world of the class it yields some value, in a world that leaves all old memory alone and of which the fact holds. -/
def makesUponQ (P : Program) (w : World) (F : Value → World → Prop) : Result Next → Prop
  | .ok (.value u) w' => Below w.heap.size w w' ∧ F u w' ∧ FreshInQ w w' u
  | .ok (.enter f args) w' => w' = w ∧ Calls P f args w (fun e w'' => ∃ u, e = .returned u ∧ Below w.heap.size w w'' ∧ F u w'' ∧ FreshInQ w w'' u)
  | _ => False
def makesAtQ (P : Program) (o : Oper) (a : Act) (w : World) (F : Value → World → Prop) : Prop := makesUponQ P w F ((execOp a.eval o).run P w)


/-- The facts of the makers that an operation waits for. -/
def depsOkQ (mk : Nat → Bool) (Φ : Nat → Value → World → Prop) (vs : Nat → Value) (o : Oper) (w : World) : Prop := ∀ e ∈ o.after, Region.binds .any e = true → mk e.on = true → Φ e.on (vs e.on) w
def YieldsVQ (P : Program) (ops : Array Oper) (C : World → Prop) (mk : Nat → Bool) (Φ : Nat → Value → World → Prop) (vs : Nat → Value) (i : Nat) (o : Oper) (v : Value) (a : Act) : Prop :=
  (mk i = true ∧ Region.wanted o (yielded ops a.tmps) = true ∧ (∀ w, C w → depsOkQ mk Φ vs o w → makesAtQ P o a w (Φ i)) ∧ v = vs i) ∨
  (mk i = false ∧ Region.wanted o (yielded ops a.tmps) = true ∧ ∀ w, C w → o.quietAt P a C w v) ∨
  (mk i = false ∧ Region.wanted o (yielded ops a.tmps) = false ∧ v = undef)
/-- Operation number i comes up. -/
def vOpQ (P : Program) (ops : Array Oper) (C : World → Prop) (mk : Nat → Bool) (Φ : Nat → Value → World → Prop) (vs : Nat → Value) (i : Nat) (K : Act → Prop) (a : Act) : Prop :=
  match ops[i]? with
  | none => K a
  | some o => ∃ v, YieldsVQ P ops C mk Φ vs i o v a ∧ K (a.put o.dst v)

theorem vOp_monoQ {i : Nat} {a : Act} {K K' : Act → Prop} (h : ∀ a, K a → K' a) (hh : vOpQ P ops C mk Φ vs i K a) : vOpQ P ops C mk Φ vs i K' a := by
  unfold vOpQ at *
  split
  · exact h _ (by simpa [*] using hh)
  · rename_i o ho
    simp only [ho] at hh
    obtain ⟨v, h1, h2⟩ := hh
    exact ⟨v, h1, h _ h2⟩
theorem YieldsVQ.vOpQ {i : Nat} {o : Oper} {v : Value} {a : Act} (hi : ops[i]? = some o) (hy : YieldsVQ P ops C mk Φ vs i o v a) {K : Act → Prop} (h : K (a.put o.dst v)) : vOpQ P ops C mk Φ vs i K a := by
  unfold Go.Proofs.YtajoimopahibcaaGreat.vOpQ
  simp only [hi]
  exact ⟨v, hy, h⟩
theorem yields_of_vOpQ {i : Nat} {o : Oper} {a : Act} {K : Act → Prop} (hi : ops[i]? = some o) (h : vOpQ P ops C mk Φ vs i K a) : ∃ v, YieldsVQ P ops C mk Φ vs i o v a ∧ K (a.put o.dst v) := by
  unfold vOpQ at h
  simpa only [hi] using h
theorem YieldsVQ.of_same {i : Nat} {o : Oper} {v : Value} {a a' : Act} (hy : YieldsVQ P ops C mk Φ vs i o v a) (he : execOp a'.eval o = execOp a.eval o)
    (hw : Region.wanted o (yielded ops a'.tmps) = Region.wanted o (yielded ops a.tmps)) : YieldsVQ P ops C mk Φ vs i o v a' := by
  unfold YieldsVQ Oper.quietAt makesAtQ at *
  rw [he, hw]
  exact hy
theorem vOp_putQ {i j : Nat} {oi oj : Oper} {v : Value} (hj : ops[j]? = some oj) (hap : oi.apart ops oj = true)
    (hsi : ∀ cs b, oi.op ≠ .select cs b) (hsj : ∀ cs b, oj.op ≠ .select cs b) {K : Act → Prop} {a : Act}
    (hy : YieldsVQ P ops C mk Φ vs i oi v a) (h : vOpQ P ops C mk Φ vs j K (a.put oi.dst v)) :
    vOpQ P ops C mk Φ vs j (fun a' => YieldsVQ P ops C mk Φ vs i oi v a' ∧ K (a'.put oi.dst v)) a := by
  obtain ⟨h1, h2, h3⟩ := Oper.apart_spec hap
  obtain ⟨u, hu, hn⟩ := yields_of_vOpQ hj h
  refine YieldsVQ.vOpQ hj (hu.of_same (execOp_put oj hsj a oi.dst v h1).symm (wanted_put oj a oi.dst v h1).symm) ⟨?_, ?_⟩
  · exact hy.of_same (execOp_put oi hsi a oj.dst u h3) (wanted_put oi a oj.dst u h3)
  · rw [← Act.put_comm a v u h2]; exact hn

/-- The walk in the order of the text. -/
def wpVQ (P : Program) (ops : Array Oper) (C : World → Prop) (mk : Nat → Bool) (Φ : Nat → Value → World → Prop) (vs : Nat → Value) (Q : Act → Prop) : Nat → List Oper → Act → Prop
  | _, [], a => Q a
  | k, o :: rest, a => ∃ v, YieldsVQ P ops C mk Φ vs k o v a ∧ wpVQ P ops C mk Φ vs Q (k + 1) rest (a.put o.dst v)

def wpAnyVQ (P : Program) (md : Region.Mode) (ops : Array Oper) (C : World → Prop) (mk : Nat → Bool) (Φ : Nat → Value → World → Prop) (vs : Nat → Value) (n : Nat) (L : Array Bool → Act → Prop) : Nat → Array Bool → Act → Prop
  | 0, listed, a => L listed a
  | f + 1, listed, a =>
    Region.ready md ops listed ≠ [] ∧ ∀ i ∈ Region.ready md ops listed, i < n ∧ vOpQ P ops C mk Φ vs i (wpAnyVQ P md ops C mk Φ vs n L f (listed.setIfInBounds i true)) a

theorem wpAnyV_firstQ {n i : Nat} {oi : Oper} {v : Value} {L : Array Bool → Act → Prop} (hi : ops[i]? = some oi) (hsel : ∀ (j : Nat) (o : Oper) cs b, ops[j]? = some o → o.op ≠ .select cs b)
    (hs : Region.sinkB md ops n = true) (hc : Region.chainB md ops n = true) (hn : n < ops.size) (hin : i < n)
    (hdone : ∀ listed a, L listed a → ∀ j ∈ Region.ready md ops listed, n ≤ j) :
    ∀ (f : Nat) (listed : Array Bool) (a : Act), HeadInv md ops n listed →
      (∀ j oj, ops[j]? = some oj → j ≠ i → listed.getD j true = false → (∀ e ∈ oj.after, Region.binds md e = true → e.on ≠ i) → oi.apart ops oj = true) →
      i ∈ Region.ready md ops listed → YieldsVQ P ops C mk Φ vs i oi v a →
      wpAnyVQ P md ops C mk Φ vs n L f (listed.setIfInBounds i true) (a.put oi.dst v) → wpAnyVQ P md ops C mk Φ vs n L (f + 1) listed a := by
  intro f
  induction f with
  | zero =>
    intro listed a inv _ hr hy H
    have hun := (mem_ready.1 hr).1
    refine ⟨fun h => (by rw [h] at hr; cases hr), fun j hj => ?_⟩
    have hjn : j < n := by
      rcases Nat.lt_or_ge j n with h | h
      · exact h
      · exact absurd hj (tail_waits hs hc hn inv _ i rfl hin hun j h)
    refine ⟨hjn, ?_⟩
    by_cases hji : j = i
    · subst hji; exact hy.vOpQ hi H
    · have := hdone _ _ H j (ready_mono hj hji)
      omega
  | succ f ih =>
    intro listed a inv hfree hr hy H
    have hun := (mem_ready.1 hr).1
    refine ⟨fun h => (by rw [h] at hr; cases hr), fun j hj => ?_⟩
    have hjn : j < n := by
      rcases Nat.lt_or_ge j n with h | h
      · exact h
      · exact absurd hj (tail_waits hs hc hn inv _ i rfl hin hun j h)
    refine ⟨hjn, ?_⟩
    by_cases hji : j = i
    · subst hji; exact hy.vOpQ hi H
    · have h1 := (H.2 j (ready_mono hj hji)).2
      obtain ⟨hjun, oj, hoj, hall⟩ := mem_ready.1 hj
      have hnot : ∀ e ∈ oj.after, Region.binds md e = true → e.on ≠ i := fun e he hb heq => by
        have h1 := hall e he hb
        rw [heq, getD_both hun] at h1
        cases h1
      have h2 := vOp_putQ hoj (hfree j oj hoj hji hjun hnot) (fun cs b => hsel i oi cs b hi) (fun cs b => hsel j oj cs b hoj) hy h1
      have hfree' : ∀ k ok, ops[k]? = some ok → k ≠ i → (listed.setIfInBounds j true).getD k true = false →
          (∀ e ∈ ok.after, Region.binds md e = true → e.on ≠ i) → oi.apart ops ok = true := fun k ok hk hki hun hno => by
        refine hfree k ok hk hki ?_ hno
        by_cases hjk : j = k
        · subst hjk; exact hjun
        · rw [getD_set_ne true hjk] at hun; exact hun
      refine vOp_monoQ (fun a' h3 => ih (listed.setIfInBounds j true) a' (inv.set hj hjn) hfree' (ready_mono hr (Ne.symm hji)) h3.1 ?_) h2
      rw [Array.setIfInBounds_comm _ _ hji]
      exact h3.2

theorem wpAnyV_lexQ {n g : Nat} {Lq : Act → Prop} (hsel : Region.noSelect ops = true) (hs : Region.sinkB md ops n = true) (hc : Region.chainB md ops n = true) (hn : n < ops.size) :
    ∀ (l : List Oper) (k : Nat) (listed : Array Bool) (a : Act), (∀ j, j < l.length → l[j]? = ops[k + j]?) → k + l.length = n → HeadInv md ops n listed → (∀ j, j < k → listed.getD j false = true) →
    Region.lexHead md ops g l.length k listed = true → wpVQ P ops C mk Φ vs Lq k l a →
    wpAnyVQ P md ops C mk Φ vs n (fun listed' a' => Region.seqB md ops g n listed' = true ∧ (∀ j, j < n → listed'.getD j false = true) ∧ Lq a') l.length listed a
  | [], k, listed, a, _, hk, _, hall, hB, h => by
    have : k = n := by simpa using hk
    subst this
    exact ⟨by simpa [Region.lexHead] using hB, hall, h⟩
  | o :: l, k, listed, a, hl, hk, inv, hall, hB, h => by
    have h0 : ops[k]? = some o := by simpa using (hl 0 (by simp)).symm
    simp only [List.length_cons, Region.lexHead, Bool.and_eq_true] at hB
    obtain ⟨⟨hr, hf⟩, hB'⟩ := hB
    have hkn : k < n := by simp only [List.length_cons] at hk; omega
    have hr' : k ∈ Region.ready md ops listed := by simpa using hr
    obtain ⟨v, hy, hK⟩ := h
    have hsz : k < listed.size := by rw [inv.size]; omega
    have hall' : ∀ j, j < k + 1 → (listed.setIfInBounds k true).getD j false = true := fun j hj => by
      by_cases e : k = j
      · subst e; simp [hsz]
      · rw [getD_set_ne false e]; exact hall j (by omega)
    exact wpAnyV_firstQ h0 (Region.noSelect_spec hsel) hs hc hn hkn (fun listed' a' hL => seqB_ready hL.1) l.length listed a inv (Region.free_spec h0 hf) hr' hy
      (wpAnyV_lexQ hsel hs hc hn l (k + 1) _ _ (fun j hj => by have := hl (j + 1) (by simp; omega); simpa [Nat.add_assoc, Nat.add_comm 1 j] using this) (by simp only [List.length_cons] at hk; omega) (inv.set hr' hkn) hall' hB' hK)

theorem wp_of_makesQ {o : Oper} {a : Act} {w : World} {F : Value → World → Prop} {K : Act → World → Prop} {Q' : Exit → Act → World → Prop} (hh : makesAtQ P o a w F)
    (h : ∀ u w', Below w.heap.size w w' → F u w' → FreshInQ w w' u → K (a.put o.dst u) w') : o.wp P a w K Q' := by
  unfold makesAtQ at hh
  unfold Oper.wp
  generalize (execOp a.eval o).run P w = r at *
  cases r with
  | ok n w' =>
    cases n <;> simp only [makesUponQ] at hh <;> simp only [Oper.upon]
    case value u => exact h _ _ hh.1 hh.2.1 hh.2.2
    case enter f args =>
      obtain ⟨e1, hc⟩ := hh
      rw [e1]
      exact hc.mono fun e w'' ⟨u, he, hb, hF, hfr⟩ => by subst he; exact h _ _ hb hF hfr
  | halt x w' => simp only [makesUponQ] at hh
end

section
variable {P : Program} {ops : Array Oper} {mk : Nat → Bool} {Φ : Nat → Value → World → Prop}

/-- The blocks that the makers that have come up lead to: all there, no two the same. -/
def ApartVQ (mk : Nat → Bool) (listed : Array Bool) (val : Nat → Value) (w : World) : Prop :=
  (∀ i, mk i = true → listed.getD i false = true → ∀ b, b ∈ blkR (val i) → b < w.heap.size) ∧
  (∀ i j, i ≠ j → mk i = true → mk j = true → listed.getD i false = true → listed.getD j false = true → ∀ b, b ∈ blkR (val i) → b ∉ blkR (val j))
theorem ApartVQ.next {listed : Array Bool} {val : Nat → Value} {w w' : World} (h : ApartVQ mk listed val w) (hb : Below w.heap.size w w') : ApartVQ mk listed val w' :=
  ⟨fun i h1 h2 b h3 => Nat.lt_of_lt_of_le (h.1 i h1 h2 b h3) hb.size, h.2⟩
theorem ApartVQ.quiet {listed : Array Bool} {val : Nat → Value} {w : World} {i : Nat} (h : ApartVQ mk listed val w) (hi : mk i = false) : ApartVQ mk (listed.setIfInBounds i true) val w := by
  have back : ∀ j, mk j = true → (listed.setIfInBounds i true).getD j false = true → listed.getD j false = true := fun j hj hl => by
    rw [getD_set_ne false (fun e => by rw [← e, hi] at hj; cases hj)] at hl; exact hl
  exact ⟨fun j h1 h2 => h.1 j h1 (back j h1 h2), fun j k hne h1 h2 h3 h4 => h.2 j k hne h1 h2 (back j h1 h3) (back k h2 h4)⟩
theorem ApartVQ.made {listed : Array Bool} {val : Nat → Value} {w w' : World} {i : Nat} {u : Value} (h : ApartVQ mk listed val w) (hb : Below w.heap.size w w') (hf : FreshInQ w w' u) :
    ApartVQ mk (listed.setIfInBounds i true) (fun j => if j = i then u else val j) w' := by
  have back : ∀ j, j ≠ i → (listed.setIfInBounds i true).getD j false = true → listed.getD j false = true := fun j hj hl => by
    rw [getD_set_ne false (Ne.symm hj)] at hl; exact hl
  refine ⟨fun j h1 h2 b h3 => ?_, fun j k hne h1 h2 h3 h4 b h5 h6 => ?_⟩
  · by_cases e : j = i
    · subst e; simp only [if_true] at h3; exact (hf b h3).2
    · simp only [e, if_false] at h3; exact Nat.lt_of_lt_of_le (h.1 j h1 (back j e h2) b h3) hb.size
  · by_cases e : j = i
    · have e' : k ≠ i := fun e2 => hne (e.trans e2.symm)
      simp only [e, if_true] at h5
      simp only [e', if_false] at h6
      have := h.1 k h2 (back k e' h4) b h6
      have := (hf b h5).1
      omega
    · simp only [e, if_false] at h5
      have l5 := h.1 j h1 (back j e h3) b h5
      by_cases e' : k = i
      · simp only [e', if_true] at h6
        have := (hf b h6).1
        omega
      · simp only [e', if_false] at h6
        exact h.2 j k hne h1 h2 (back j e h3) (back k e' h4) b h5 h6

theorem wpAny_of_VQ (hp : Probe P) {n g : Nat} {w0 : World} {L : (Nat → Value) → Array Bool → Act → Prop} {Q' : Exit → Act → World → Prop} {Sh : Nat → Value → Prop} (hΦ : ∀ i v w w', Φ i v w → Below w.heap.size w w' → Φ i v w') (hSh : ∀ i v w, mk i = true → Φ i v w → Sh i v)
    (hL : ∀ listed a w1 (val : Nat → Value), Below w0.heap.size w0 w1 → (∀ i, mk i = true → listed.getD i false = true → Φ i (val i) w1) → ApartVQ mk listed val w1 → L val listed a → wpAny P .any ops Q' g listed a w1) :
    ∀ (f : Nat) (listed : Array Bool) (a : Act) (w1 : World) (val : Nat → Value), (∀ i, mk i = true → Sh i (val i)) → Below w0.heap.size w0 w1 → (∀ i, mk i = true → listed.getD i false = true → Φ i (val i) w1) → ApartVQ mk listed val w1 →
      (∀ W, Below w0.heap.size w0 W → ∀ vs, (∀ i, mk i = true → Sh i (vs i)) → (∀ i, mk i = true → listed.getD i false = true → vs i = val i) → wpAnyVQ P .any ops (extC W) mk Φ vs n (L vs) f listed a) → wpAny P .any ops Q' (f + g) listed a w1
  | 0, listed, a, w1, val, hv, hb, hf, hap, h => by
    rw [Nat.zero_add]
    exact hL _ _ _ _ hb hf hap (h w0 (Below.refl _ _) val hv (fun _ _ _ => rfl))
  | f + 1, listed, a, w1, val, hv, hb, hf, hap, h => by
    rw [show f + 1 + g = (f + g) + 1 by omega]
    have h0 := h w1 hb val hv (fun _ _ _ => rfl)
    refine ⟨fun e => absurd e h0.1, fun i hi => ?_⟩
    have hun := (mem_ready.1 hi).1
    obtain ⟨oi, hoi, hdep⟩ := (mem_ready.1 hi).2
    have hne : ∀ j, listed.getD j false = true → j ≠ i := fun j hj e => by
      subst e
      rw [getD_both hun] at hj
      cases hj
    have hset : ∀ j, j ≠ i → (listed.setIfInBounds i true).getD j false = true → listed.getD j false = true := fun j hj e => by
      rw [getD_set_ne false (Ne.symm hj)] at e; exact e
    obtain ⟨v1, hy1, _⟩ := yields_of_vOpQ hoi (h0.2 i hi).2
    unfold wpOp
    simp only [hoi]
    rcases hy1 with ⟨hmk, hw, hm, _⟩ | ⟨hmk, hw, hq⟩ | ⟨hmk, hw, rfl⟩
    · rw [if_pos hw]
      refine .inl (wp_of_makesQ (hm w1 (extC_of (Below.refl _ _)) (fun e he hbd hk => hf e.on hk (hdep e he hbd))) fun u w2 hb2 hu hfr => ?_)
      refine wpAny_of_VQ (n := n) hp hΦ hSh hL f _ _ w2 (fun j => if j = i then u else val j) (fun j hj => (by
        by_cases e : j = i
        · subst e; simp only [if_true]; exact hSh _ _ _ hj hu
        · simp only [e, if_false]; exact hv j hj)) (hb.trans (hb2.mono hb.size)) (fun j hj hl => ?_) (hap.made hb2 hfr) (fun W hW vs hvs hag => ?_)
      · by_cases e : j = i
        · subst e; simp only [if_true]; exact hu
        · simp only [e, if_false]; exact hΦ _ _ _ _ (hf j hj (hset j e hl)) hb2
      · have h1 := h W hW vs hvs (fun j hj hl => by
          have hji := hne j hl
          have := hag j hj (by rw [getD_set_ne false (Ne.symm hji)]; exact hl)
          simpa [hji] using this)
        obtain ⟨v2, hy2, hK⟩ := yields_of_vOpQ hoi (h1.2 i hi).2
        have hv2 : v2 = vs i := by
          rcases hy2 with ⟨_, _, _, e⟩ | ⟨e, _⟩ | ⟨e, _⟩
          · exact e
          · rw [hmk] at e; cases e
          · rw [hmk] at e; cases e
        have hvi : vs i = u := by
          have := hag i hmk (by
            have hsz : i < listed.size := by
              rcases Nat.lt_or_ge i listed.size with h' | h'
              · exact h'
              · simp [Array.getElem?_eq_none h'] at hun
            simp [hsz])
          simpa using this
        rw [hv2, hvi] at hK
        exact hK
    · rw [if_pos hw]
      refine .inl (wp_of_quietE (hq w1 (extC_of (Below.refl _ _))) fun w2 hb2 => ?_)
      refine wpAny_of_VQ (n := n) hp hΦ hSh hL f _ _ w2 val hv (hb.trans (hb2.mono hb.size)) (fun j hj hl => ?_) ((hap.next hb2).quiet hmk) (fun W hW vs hvs hag => ?_)
      · have hji : j ≠ i := fun e => by rw [e, hmk] at hj; cases hj
        exact hΦ _ _ _ _ (hf j hj (hset j hji hl)) hb2
      · have hag' : ∀ j, mk j = true → listed.getD j false = true → vs j = val j := fun j hj hl => hag j hj (by
          rw [getD_set_ne false (Ne.symm (hne j hl))]; exact hl)
        obtain ⟨v2, hy2, hK⟩ := yields_of_vOpQ hoi ((h W hW vs hvs hag').2 i hi).2
        obtain ⟨v0, hy0, _⟩ := yields_of_vOpQ hoi ((h w0 (Below.refl _ _) vs hvs hag').2 i hi).2
        have q0 : ∀ w, extC w0 w → oi.quietAt P a (extC w0) w v0 := by
          rcases hy0 with ⟨e, _⟩ | ⟨_, _, e⟩ | ⟨_, e, _⟩
          · rw [hmk] at e; cases e
          · exact e
          · rw [hw] at e; cases e
        have q2 : ∀ w, extC W w → oi.quietAt P a (extC W) w v2 := by
          rcases hy2 with ⟨e, _⟩ | ⟨_, _, e⟩ | ⟨_, e, _⟩
          · rw [hmk] at e; cases e
          · exact e
          · rw [hw] at e; cases e
        have e1 : v0 = v1 := quiet_det hp (q0 w1 (extC_of hb)) (hq w1 (extC_of (Below.refl _ _)))
        have e2 : v0 = v2 := quiet_det hp (q0 W (extC_of hW)) (q2 W (extC_of (Below.refl _ _)))
        rw [← e2, e1] at hK
        exact hK
    · rw [if_neg (by rw [hw]; simp)]
      refine wpAny_of_VQ (n := n) hp hΦ hSh hL f _ _ w1 val hv hb (fun j hj hl => ?_) (hap.quiet hmk) (fun W hW vs hvs hag => ?_)
      · have hji : j ≠ i := fun e => by rw [e, hmk] at hj; cases hj
        exact hf j hj (hset j hji hl)
      · have hag' : ∀ j, mk j = true → listed.getD j false = true → vs j = val j := fun j hj hl => hag j hj (by
          rw [getD_set_ne false (Ne.symm (hne j hl))]; exact hl)
        obtain ⟨v2, hy2, hK⟩ := yields_of_vOpQ hoi ((h W hW vs hvs hag').2 i hi).2
        have e2 : v2 = undef := by
          rcases hy2 with ⟨e, _⟩ | ⟨_, e, _⟩ | ⟨_, _, e⟩
          · rw [hmk] at e; cases e
          · rw [hw] at e; cases e
          · exact e
        rw [e2] at hK
        exact hK

/-- A region of quiet operations and makers ahead of a tail in forced order. -/
theorem wp_region_makersQ {id : Nat} {Q : Exit → Act → World → Prop} {a : Act} {w : World} {l : List Oper} (n : Nat) (mk : Nat → Bool) (Φ : Nat → Value → World → Prop) (Sh : Nat → Value → Prop) (vs0 : Nat → Value) (hp : Probe P) (hm : P.follows .mixedOrders = true) (hB : Region.lexTailB .any l.toArray n = true)
    (hΦ : ∀ i v w w', Φ i v w → Below w.heap.size w w' → Φ i v w') (hSh : ∀ i v w, mk i = true → Φ i v w → Sh i v) (hv0 : ∀ i, mk i = true → Sh i (vs0 i))
    (h : ∀ W, Below w.heap.size w W → ∀ vs, (∀ i, mk i = true → Sh i (vs i)) → wpVQ P l.toArray (extC W) mk Φ vs (fun a' => ∀ w1, Below w.heap.size w w1 → (∀ i, i < n → mk i = true → Φ i (vs i) w1) → (∀ i j, i < n → j < n → i ≠ j → mk i = true → mk j = true → ∀ b, b ∈ blkR (vs i) → b ∉ blkR (vs j)) → wpList P l.toArray Q (l.drop n) a' w1) 0 (l.take n) a) :
    (Code.region id l.toArray true).wp P Q a w := by
  simp only [Region.lexTailB, Bool.and_eq_true, decide_eq_true_eq] at hB
  obtain ⟨⟨⟨⟨hsel, hn⟩, hs⟩, hc⟩, hlex⟩ := hB
  have hn' : n < l.length := by simpa using hn
  have htl : (l.take n).length = n := by simp; omega
  have hdl : (l.drop n).length = l.toArray.size - n := by simp
  have inv0 : HeadInv .any l.toArray n (Array.replicate l.toArray.size false) :=
    ⟨by simp, fun j oj _ hl => (by rw [getD_replicate_false] at hl; cases hl), fun t _ ht => getD_in (by simpa using ht) (getD_replicate_false _ _)⟩
  have bw : Below w.heap.size w w.drew := (Below.refl _ _).drew
  refine wp_region_any hm ?_
  have H := fun W (hW : Below w.heap.size w W) vs hvs => wpAnyV_lexQ (md := .any) (C := extC W) (mk := mk) (Φ := Φ) (vs := vs) (g := l.toArray.size - n) hsel hs hc hn (l.take n) 0 _ a (fun j hj => by
    have hj' : j < n := by rw [htl] at hj; exact hj
    simp [hj']) (by simpa using htl) inv0 (fun j hj => absurd hj (by omega)) (by rw [htl]; exact hlex) (h W hW vs hvs)
  have := wpAny_of_VQ (Q' := Q) (w0 := w) (n := n) (g := l.toArray.size - n) (L := fun vs listed' a' => Region.seqB .any l.toArray (l.toArray.size - n) n listed' = true ∧ (∀ j, j < n → listed'.getD j false = true) ∧
      ∀ w1, Below w.heap.size w w1 → (∀ i, i < n → mk i = true → Φ i (vs i) w1) → (∀ i j, i < n → j < n → i ≠ j → mk i = true → mk j = true → ∀ b, b ∈ blkR (vs i) → b ∉ blkR (vs j)) → wpList P l.toArray Q (l.drop n) a' w1) hp hΦ hSh
    (fun listed a' w1 val hb hf hap hL' => by
      have := wpAny_of_seq (md := .any) (Q' := Q) (l.drop n) n listed a' w1 (fun j => by simp [List.getElem?_drop]) (by rw [hdl]; exact hL'.1) (hL'.2.2 w1 hb (fun i hi hmk => hf i hmk (hL'.2.1 i hi)) (fun i j hi hj hne h1 h2 => hap.2 i j hne h1 h2 (hL'.2.1 i hi) (hL'.2.1 j hj)))
      rwa [hdl] at this)
    (l.take n).length (Array.replicate l.toArray.size false) a w.drew vs0 hv0 bw (fun i _ hl => by rw [getD_replicate_false] at hl; cases hl) ⟨fun i _ hl => (by rw [getD_replicate_false] at hl; cases hl), fun i j _ _ _ hl => (by rw [getD_replicate_false] at hl; cases hl)⟩ (fun W hW vs hvs _ => H W hW vs hvs)
  rw [htl, show n + (l.toArray.size - n) = l.toArray.size by omega] at this
  exact this

/-- A stretch of quiet operations. -/
theorem wpV_quietQ {C : World → Prop} {vs : Nat → Value} {Q : Act → Prop} (hC : ∃ w, C w) : ∀ (m k : Nat) (l : List Oper) (a : Act), (∀ j, j < m → mk (k + j) = false) → m ≤ l.length →
    wpQuiet P ops C (fun a' => wpVQ P ops C mk Φ vs Q (k + m) (l.drop m) a') (l.take m) a → wpVQ P ops C mk Φ vs Q k l a
  | 0, k, l, a, _, _, h => by simpa [wpQuiet] using h
  | m + 1, k, [], a, _, hl, _ => by simp at hl
  | m + 1, k, o :: rest, a, hk, hl, h => by
    simp only [List.take_succ_cons, List.drop_succ_cons] at h
    have hk' : ∀ j, j < m → mk (k + 1 + j) = false := fun j h1 => by rw [show k + 1 + j = k + (j + 1) by omega]; exact hk (j + 1) (by omega)
    have hl' : m ≤ rest.length := by simpa using hl
    have go : ∀ a', wpQuiet P ops C (fun a' => wpVQ P ops C mk Φ vs Q (k + (m + 1)) (rest.drop m) a') (rest.take m) a' → wpVQ P ops C mk Φ vs Q (k + 1) rest a' := fun a' h' =>
      wpV_quietQ hC m (k + 1) rest a' hk' hl' (by rw [show k + 1 + m = k + (m + 1) by omega]; exact h')
    unfold wpQuiet at h
    unfold wpVQ
    by_cases hw : Region.wanted o (yielded ops a.tmps) = true
    · rw [if_pos hw] at h
      obtain ⟨v, h1, h2⟩ := h
      exact ⟨v, .inr (.inl ⟨hk 0 (by omega), hw, h1⟩), go _ h2⟩
    · rw [if_neg hw] at h
      exact ⟨undef, .inr (.inr ⟨hk 0 (by omega), by simpa using hw, rfl⟩), go _ h⟩
/-- A maker. -/
theorem wpV_makeQ {C : World → Prop} {vs : Nat → Value} {Q : Act → Prop} {k : Nat} {o : Oper} {rest : List Oper} {a : Act} (hk : mk k = true) (hw : Region.wanted o (yielded ops a.tmps) = true)
    (hm : ∀ w, C w → depsOkQ mk Φ vs o w → makesAtQ P o a w (Φ k)) (h : wpVQ P ops C mk Φ vs Q (k + 1) rest (a.put o.dst (vs k))) : wpVQ P ops C mk Φ vs Q k (o :: rest) a :=
  ⟨vs k, .inl ⟨hk, hw, hm, rfl⟩, h⟩
theorem wpV_make_Q {C : World → Prop} {vs : Nat → Value} {Q : Act → Prop} {k : Nat} {o : Oper} {rest : List Oper} {a : Act} (hk : mk k = true) (hw : o.guard = none)
    (hm : ∀ w, C w → depsOkQ mk Φ vs o w → makesAtQ P o a w (Φ k)) (h : wpVQ P ops C mk Φ vs Q (k + 1) rest (a.put o.dst (vs k))) : wpVQ P ops C mk Φ vs Q k (o :: rest) a := wpV_makeQ hk (by simp [Region.wanted, hw]) hm h
theorem wpV_nilQ {C : World → Prop} {vs : Nat → Value} {Q : Act → Prop} {k : Nat} {a : Act} (h : Q a) : wpVQ P ops C mk Φ vs Q k [] a := h
end

end Go.Proofs.YtajoimopahibcaaGreat



/- QuotientRing of the program. -/
namespace Go.Proofs.YtajoimopahibcaaGreat
open Go.RowKit Go.Shelf
set_option maxRecDepth 100000

theorem NewRing.next {D k : Nat} {w w' : World} {v : Value} {n o : Int} {X Y : List Int} (h : NewRing D w v n o k X Y) (hb : Below w.heap.size w w') : NewRing D w' v n o k X Y := by
  obtain ⟨v2, v3, rfl, h2, h3, h4⟩ := h
  exact ⟨v2, v3, rfl, own_nextK h2 hb, own_nextK h3 hb, h4⟩
structure PrPhi (qn nE m D : Nat) (Z1 Z2 : List Int) (f : Nat → Nat) (i : Nat) (v : Value) (w : World) : Prop where
  p2 : i = 2 → (∃ A c B d, v = .agg #[.int .i64 (qn : Int), .int .i64 (nE : Int), .slice (some ⟨A, 0, none⟩) (qn * qn) c, .slice (some ⟨B, 0, none⟩) (qn * qn) d]) ∧ NewRing D w v qn nE (qn * qn) Z1 Z2
  p4 : i = 4 → (∃ g c, v = .slice (some ⟨g, 0, none⟩) m c) ∧ OwnK D m f v w
structure PrSh (qn nE m : Nat) (i : Nat) (v : Value) : Prop where
  p2 : i = 2 → ∃ A c B d, v = .agg #[.int .i64 (qn : Int), .int .i64 (nE : Int), .slice (some ⟨A, 0, none⟩) (qn * qn) c, .slice (some ⟨B, 0, none⟩) (qn * qn) d]
  p4 : i = 4 → ∃ g c, v = .slice (some ⟨g, 0, none⟩) m c
theorem PrPhi_stable {qn nE m D : Nat} {Z1 Z2 : List Int} {f : Nat → Nat} (i : Nat) (v : Value) (w w' : World) (h : PrPhi qn nE m D Z1 Z2 f i v w) (hb : Below w.heap.size w w') : PrPhi qn nE m D Z1 Z2 f i v w' := ⟨fun e => ⟨(h.p2 e).1, (h.p2 e).2.next hb⟩, fun e => ⟨(h.p4 e).1, own_nextK (h.p4 e).2 hb⟩⟩
theorem PrSh_of {qn nE m D : Nat} {Z1 Z2 : List Int} {f : Nat → Nat} (i : Nat) (v : Value) (w : World) (h : PrPhi qn nE m D Z1 Z2 f i v w) : PrSh qn nE m i v := ⟨fun e => (h.p2 e).1, fun e => (h.p4 e).1⟩
def pr0 (qn nE m i : Nat) : Value := if i = 2 then .agg #[.int .i64 (qn : Int), .int .i64 (nE : Int), .slice (some ⟨0, 0, none⟩) (qn * qn) 0, .slice (some ⟨0, 0, none⟩) (qn * qn) 0] else .slice (some ⟨0, 0, none⟩) m 0
theorem PrSh_zero {qn nE m : Nat} (i : Nat) : PrSh qn nE m i (pr0 qn nE m i) := ⟨fun e => by subst e; exact ⟨0, 0, 0, 0, rfl⟩, fun e => by subst e; exact ⟨0, 0, rfl⟩⟩

set_option maxHeartbeats 8000000 in
theorem quo_no (n o : Int) (A B C : Option Addr) (la ca lb cb len cap : Nat) (X Y L : List Int) (w : World) (ht : isIdB n o X Y L = false) (hX : Ints w w.heap.size A la X) (hY : Ints w w.heap.size B lb Y) (hL : Ints w w.heap.size C len L) (hla : la ≤ 9223372036854775807) (hlb : lb ≤ 9223372036854775807) (hlen : len ≤ 9223372036854775807) (hca : la ≤ ca) (hcb : lb ≤ cb) :
    Calls Tryz.prog 24 #[.agg #[.int .i64 n, .int .i64 o, .slice A la ca, .slice B lb cb], .slice C len cap] w fun e' w' => e' = .returned (.tuple #[.agg #[.int .i64 0, .int .i64 0, .slice none 0 0, .slice none 0 0], .slice none 0 0, .bool false]) ∧ Below w.heap.size w w' := by
  obtain ⟨W, hW⟩ : ∃ W, (w.alloc (.cells #[.int .i64 n, .int .i64 o, .slice A la ca, .slice B lb cb] 25)).alloc (.cells #[.int .i64 0, .int .i64 0, .slice none 0 0, .slice none 0 0] 25) = W := ⟨_, rfl⟩
  have k0 : Blk W w.heap.size 25 #[.int .i64 n, .int .i64 o, .slice A la ca, .slice B lb cb] := by
    subst hW; exact (Blk.new w _ _).alloc _
  have k1 : Blk W (w.heap.size + 1) 25 #[.int .i64 0, .int .i64 0, .slice none 0 0, .slice none 0 0] := by
    subst hW
    have := Blk.new (w.alloc (.cells #[.int .i64 n, .int .i64 o, .slice A la ca, .slice B lb cb] 25)) 25 #[.int .i64 0, .int .i64 0, .slice none 0 0, .slice none 0 0]
    rw [World.size_alloc] at this
    exact this
  have b0 : Below w.heap.size w W := by
    subst hW; exact ((Below.refl _ _).alloc (Nat.le_refl _) _).alloc (by simp) _
  obtain ⟨c0, c1, c2, c3⟩ := blk4 k0
  have HX := Lib.hid (hX.next b0)
  have HY := Lib.hid (hY.next b0)
  have HL := Lib.hid (hL.next b0)
  have B0 := Lib.hid b0
  have HW := Lib.hid hW
  have K1 := Lib.hid k1
  have HT := Lib.hid ht
  clear hX hY hL b0 hW k0 k1 ht
  go_enter Tryz.func24, Tryz.ntmps24
  go_wp2_with (fail)
  rw [HW.out]
  refine (quotientOf_no n o A B C la ca lb cb len cap X Y L W HT.out HX.out HY.out HL.out hla hlb hlen hca hcb).mono ?_
  rintro e1 w1 ⟨rfl, hb1⟩
  have B1 := Lib.hid (below_step B0.out hb1)
  have KR := Lib.hid (K1.out.next hb1)
  have sz := B1.out.size
  have lR := KR.out.lt
  clear hb1 c0 c1 c2 c3
  go_upto_region 2 with (fail)
  obtain ⟨V, hV⟩ : ∃ V, w1.alloc (.cells #[.int .i64 0, .int .i64 0, .slice none 0 0, .slice none 0 0, .slice none 0 0, .map none] 82) = V := ⟨_, rfl⟩
  have bV : Below w1.heap.size w1 V := by subst hV; exact (Below.refl _ _).alloc (Nat.le_refl _) _
  rw [hV]
  have B2 := Lib.hid (below_step B1.out bV)
  have KR2 := Lib.hid (KR.out.next bV)
  clear bV hV
  have d0 := KR2.out.cell 0
  have d1 := KR2.out.cell 1
  have d2 := KR2.out.cell 2
  have d3 := KR2.out.cell 3
  have f0 := KR2.out.frozen 0
  have f1 := KR2.out.frozen 1
  have f2 := KR2.out.frozen 2
  have f3 := KR2.out.frozen 3
  simp only [List.getElem?_toArray, List.getElem?_cons_zero, List.getElem?_cons_succ] at d0 d1 d2 d3
  go_wp2
  refine bodyPost_ret (v := .tuple #[.agg #[.int .i64 0, .int .i64 0, .slice none 0 0, .slice none 0 0], .slice none 0 0, .bool false]) ?_ rfl ⟨rfl, store4_below B2.out (Nat.le_succ _)⟩
  exact results_cell_tmp2 Tryz.results24 _ _ (w.heap.size + 1) 25 _ _ _ _ rfl rfl rfl (store4_blk KR2.out) Tryz.underlying25 rfl (by kernel_rfl)

set_option maxHeartbeats 8000000 in
theorem quo_yes (C : Option Addr) (len cap : Nat) (X Y L : List Int) (p : Nat → Bool) (m e b1 o1 la ca b2 o2 lb cb : Nat) (w : World) (hr : RingAt w m e b1 o1 la ca b2 o2 lb cb (tabOf X) (tabOf Y)) (ht : isIdB m e X Y L = true) (hpS : setL L = p) (R : RTab m (tabOf X) (tabOf Y) e) (hp : Idl m (tabOf X) (tabOf Y) p)
    (hX : Ints w w.heap.size (some ⟨b1, o1, none⟩) la X) (hY : Ints w w.heap.size (some ⟨b2, o2, none⟩) lb Y) (hL : Ints w w.heap.size C len L) (hla : la ≤ 9223372036854775807) (hlb : lb ≤ 9223372036854775807) (hlen : len ≤ 9223372036854775807) (hca : la ≤ ca) (hcb : lb ≤ cb) :
    Calls Tryz.prog 24 #[.agg #[.int .i64 m, .int .i64 e, .slice (some ⟨b1, o1, none⟩) la ca, .slice (some ⟨b2, o2, none⟩) lb cb], .slice C len cap] w fun e' w' => ∃ v v2, e' = .returned (.tuple #[v, v2, .bool true]) ∧ NewRing w.heap.size w' v (qN m (tabOf X) p) (namK m (tabOf X) p m e) (qN m (tabOf X) p * qN m (tabOf X) p) (numL (qN m (tabOf X) p * qN m (tabOf X) p) (quoF m (tabOf X) p (tabOf X))) (numL (qN m (tabOf X) p * qN m (tabOf X) p) (quoF m (tabOf X) p (tabOf Y))) ∧ OwnK w.heap.size m (namK m (tabOf X) p m) v2 w' ∧ (∀ b, b ∈ blkR v → b ∉ blkR v2) ∧ Below w.heap.size w w' := by
  obtain ⟨W, hW⟩ : ∃ W, (w.alloc (.cells #[.int .i64 m, .int .i64 e, .slice (some ⟨b1, o1, none⟩) la ca, .slice (some ⟨b2, o2, none⟩) lb cb] 25)).alloc (.cells #[.int .i64 0, .int .i64 0, .slice none 0 0, .slice none 0 0] 25) = W := ⟨_, rfl⟩
  have k0 : Blk W w.heap.size 25 #[.int .i64 m, .int .i64 e, .slice (some ⟨b1, o1, none⟩) la ca, .slice (some ⟨b2, o2, none⟩) lb cb] := by
    subst hW; exact (Blk.new w _ _).alloc _
  have k1 : Blk W (w.heap.size + 1) 25 #[.int .i64 0, .int .i64 0, .slice none 0 0, .slice none 0 0] := by
    subst hW
    have := Blk.new (w.alloc (.cells #[.int .i64 m, .int .i64 e, .slice (some ⟨b1, o1, none⟩) la ca, .slice (some ⟨b2, o2, none⟩) lb cb] 25)) 25 #[.int .i64 0, .int .i64 0, .slice none 0 0, .slice none 0 0]
    rw [World.size_alloc] at this
    exact this
  have b0 : Below w.heap.size w W := by
    subst hW; exact ((Below.refl _ _).alloc (Nat.le_refl _) _).alloc (by simp) _
  obtain ⟨c0, c1, c2, c3⟩ := blk4 k0
  have HX := Lib.hid (hX.next b0)
  have HY := Lib.hid (hY.next b0)
  have HL := Lib.hid (hL.next b0)
  have HR0 := Lib.hid (hr.next b0)
  have HPI := Lib.hid hp
  have HPP := Lib.hid hpS
  have B0 := Lib.hid b0
  have HW := Lib.hid hW
  have K1 := Lib.hid k1
  have HT := Lib.hid ht
  have n1 := R.cnt_pos hp
  have m0 : 0 < m := Nat.lt_of_lt_of_le n1 cnt_le
  have hm' := hr.hm'
  obtain ⟨qn, hqn⟩ : ∃ x, qN m (tabOf X) p = x := ⟨_, rfl⟩
  obtain ⟨nE, hnE⟩ : ∃ x, namK m (tabOf X) p m e = x := ⟨_, rfl⟩
  obtain ⟨Z1, hZ1⟩ : ∃ x, numL (qn * qn) (quoF m (tabOf X) p (tabOf X)) = x := ⟨_, rfl⟩
  obtain ⟨Z2, hZ2⟩ : ∃ x, numL (qn * qn) (quoF m (tabOf X) p (tabOf Y)) = x := ⟨_, rfl⟩
  have MQ : ∀ (D : Nat) (mv : Value) (w' : World), QSt m e b1 o1 la ca b2 o2 lb cb (tabOf X) p D w' mv → RingAt w' m e b1 o1 la ca b2 o2 lb cb (tabOf X) (tabOf Y) → Calls Tryz.prog 72 #[.iface 82 mv] w' fun e' w2 => ∃ v, e' = .returned v ∧ NewRing w'.heap.size w2 v qn nE (qn * qn) Z1 Z2 ∧ Below w'.heap.size w' w2 := fun D mv w' h1 h2 => by
    have := made_quo h1 h2 R hp
    rw [hqn, hnE, hZ1, hZ2] at this
    exact this
  have MQ := Lib.hid MQ
  rw [hqn, hnE, hZ1, hZ2]
  rw [hqn] at n1
  have hnn : 0 < qn * qn := Nat.mul_pos n1 n1
  clear hX hY hL b0 hW k0 k1 ht hr hp hpS hqn hnE hZ1 hZ2
  go_enter Tryz.func24, Tryz.ntmps24
  go_wp2_with (fail)
  rw [HW.out]
  refine (quotientOf_yes C len cap X Y L W p m e b1 o1 la ca b2 o2 lb cb HT.out HPP.out HR0.out R HPI.out HX.out HY.out HL.out hla hlb hlen hca hcb).mono ?_
  rintro e1 w1 ⟨mv, rfl, hQ, hb1⟩
  have HQ := Lib.hid hQ
  obtain ⟨vC, bm, rfl, hC, hM, _⟩ := hQ
  obtain ⟨AC, cC, rfl⟩ : ∃ A c, vC = .slice A (leas m (tabOf X) p m).length c := by
    rcases hC.2 with ⟨h1, h2⟩ | ⟨g, cap, cur, h1, _⟩
    · exact ⟨none, 0, by rw [h1, h2]⟩
    · exact ⟨_, _, h1⟩
  obtain ⟨nl, hnl⟩ : ∃ x, (leas m (tabOf X) p m).length = x := ⟨_, rfl⟩
  have B1 := Lib.hid (below_step B0.out hb1)
  have KR := Lib.hid (K1.out.next hb1)
  have RW := Lib.hid (HR0.out.next hb1)
  have HM1 := Lib.hid hM
  have sz1 := B1.out.size
  have lR := KR.out.lt
  rw [hnl] at HQ
  rw [hnl]
  unfold quoC at HQ ⊢
  clear hb1 c0 c1 c2 c3 hC hM hnl
  go_upto_region 4 with (fail)
  obtain ⟨gQ, hgQ⟩ : ∃ g, w1.heap.size = g := ⟨_, rfl⟩
  obtain ⟨V, hV⟩ : ∃ V, w1.alloc (.cells #[.int .i64 m, .int .i64 e, .slice (some ⟨b1, o1, none⟩) la ca, .slice (some ⟨b2, o2, none⟩) lb cb, .slice AC nl cC, .map (some bm)] 82) = V := ⟨_, rfl⟩
  have bV : Below w1.heap.size w1 V := by subst hV; exact (Below.refl _ _).alloc (Nat.le_refl _) _
  have kV : Blk V gQ 82 #[.int .i64 m, .int .i64 e, .slice (some ⟨b1, o1, none⟩) la ca, .slice (some ⟨b2, o2, none⟩) lb cb, .slice AC nl cC, .map (some bm)] := by subst hV hgQ; exact Blk.new w1 _ _
  rw [hV, hgQ]
  have B2 := Lib.hid (below_step B1.out bV)
  have Q2 := Lib.hid (HQ.out.next bV)
  have HM2 := Lib.hid (HM1.out.next bV)
  have RW2 := Lib.hid (RW.out.next bV)
  have KR2 := Lib.hid (KR.out.next bV)
  have KQ := Lib.hid kV
  have lR2 := KR2.out.lt
  have s2 := B2.out.size
  have hi6 := z6_info (cs := #[.int .i64 m, .int .i64 e, .slice (some ⟨b1, o1, none⟩) la ca, .slice (some ⟨b2, o2, none⟩) lb cb, .slice AC nl cC, .map (some bm)]) rfl
  clear bV hV kV hgQ
  refine wp_region_makersQ 5 pqMk (PrPhi qn nE m V.heap.size Z1 Z2 (namK m (tabOf X) p m)) (PrSh qn nE m) (pr0 qn nE m) probe (by kernel_rfl) (by kernel_rfl) PrPhi_stable (fun i v x _ => PrSh_of i v x) (fun i _ => PrSh_zero i) ?_
  intro V5 hV5 vs hvs
  obtain ⟨A2, c2, A3, c3, e2⟩ := (hvs 2 rfl).p2 rfl
  obtain ⟨A4, c4, e4⟩ := (hvs 4 rfl).p4 rfl
  have cW : ∃ x, extC V5 x := ⟨V5, extC_of (Below.refl _ _)⟩
  have KX := Lib.hid (show ∀ x, extC V5 x → Below V.heap.size V x from fun x ⟨u, hu⟩ => by rw [hu]; exact below_step hV5 (ext_below V5 u))
  have GQ := (KQ.out.next hV5).inC
  clear hV5
  simp only [List.take_succ_cons, List.take_zero, List.drop_succ_cons, List.drop_zero]
  refine wpV_quietQ cW 2 0 _ _ (by decide) (by decide) ?_
  simp only [List.take_succ_cons, List.take_zero, List.drop_succ_cons, List.drop_zero]
  repeat (first
    | (refine wpQuiet_load_row rfl 82 (.tmp 7) rfl gQ rfl _ #[.int .i64 m, .int .i64 e, .slice (some ⟨b1, o1, none⟩) la ca, .slice (some ⟨b2, o2, none⟩) lb cb, .slice AC nl cC, .map (some bm)] _ GQ Tryz.underlying82 rfl hi6 ?_; go_simp)
    | (go_big_quiet_step (fail)))
  refine wpQuiet_nil ?_
  refine wpV_make_Q rfl rfl (fun x hx _ => ?_) ?_
  · unfold makesAtQ
    go_simp
    refine ⟨rfl, (MQ.out _ _ x (Q2.out.next (KX.out x hx)) (RW2.out.next (KX.out x hx))).mono ?_⟩
    rintro _ x' ⟨v, rfl, hN, hb⟩
    obtain ⟨v2, v3, rfl, o2', o3', ap⟩ := hN
    obtain ⟨gA, cA, rfl, _, _⟩ := o2'.form hnn
    obtain ⟨gB, cB, rfl, _, _⟩ := o3'.form hnn
    have q2 := o2'.lt gA rfl
    have q3 := o3'.lt gB rfl
    refine ⟨_, rfl, hb, ⟨fun _ => ⟨⟨_, _, _, _, rfl⟩, NewRing.mono ⟨_, _, rfl, o2', o3', ap⟩ (KX.out x hx).size⟩, fun e => absurd e (by decide)⟩, fun b hbb => ?_⟩
    simp [blkR, sliceBlocks] at hbb
    rcases hbb with rfl | rfl
    · exact q2
    · exact q3
  rw [e2]
  go_simp
  refine wpV_quietQ cW 1 _ _ _ (by decide) (by decide) ?_
  simp only [List.take_succ_cons, List.take_zero, List.drop_succ_cons, List.drop_zero]
  repeat (first
    | (refine wpQuiet_load_row rfl 82 (.tmp 7) rfl gQ rfl _ #[.int .i64 m, .int .i64 e, .slice (some ⟨b1, o1, none⟩) la ca, .slice (some ⟨b2, o2, none⟩) lb cb, .slice AC nl cC, .map (some bm)] _ GQ Tryz.underlying82 rfl hi6 ?_; go_simp)
    | (go_big_quiet_step (fail)))
  refine wpQuiet_nil ?_
  refine wpV_make_Q rfl rfl (fun x hx _ => ?_) ?_
  · unfold makesAtQ
    go_simp
    refine ⟨rfl, (qNames_any (b1 := b1) (o1 := o1) (la := la) (ca := ca) (b2 := b2) (o2 := o2) (lb := lb) (cb := cb) (vC := .slice AC nl cC) x (HM2.out.next (KX.out x hx)) R HPI.out hm').mono ?_⟩
    rintro _ x' ⟨v, rfl, ho, hb⟩
    obtain ⟨gA, cA, rfl, _, _⟩ := World.ownsRow.form ho m0
    have q2 := World.ownsRow.lt ho gA rfl
    refine ⟨_, rfl, hb, ⟨fun e => absurd e (by decide), fun _ => ⟨⟨_, _, rfl⟩, own_base ho (KX.out x hx).size⟩⟩, fun b hbb => ?_⟩
    simp [blkR] at hbb
    subst hbb
    exact q2
  rw [e4]
  go_simp
  refine wpV_nilQ ?_
  intro w7 hb7 hf hap
  have h2 := ((hf 2 (by decide) rfl).p2 rfl).2
  have h4 := ((hf 4 (by decide) rfl).p4 rfl).2
  have hab := hap 2 4 (by decide) (by decide) (by decide) rfl rfl
  rw [e2, e4] at hab
  rw [e2] at h2
  rw [e4] at h4
  have H2 := Lib.hid h2
  have H4 := Lib.hid h4
  have HAB := Lib.hid hab
  have B7 := Lib.hid (below_step B2.out hb7)
  have KR7 := Lib.hid (KR2.out.next hb7)
  clear hb7 hf h2 h4 hvs hab hap
  have d0 := KR7.out.cell 0
  have d1 := KR7.out.cell 1
  have d2 := KR7.out.cell 2
  have d3 := KR7.out.cell 3
  have f0 := KR7.out.frozen 0
  have f1 := KR7.out.frozen 1
  have f2 := KR7.out.frozen 2
  have f3 := KR7.out.frozen 3
  simp only [List.getElem?_toArray, List.getElem?_cons_zero, List.getElem?_cons_succ] at d0 d1 d2 d3
  go_wp2
  obtain ⟨v2, v3, ev, o2', o3', ap⟩ := H2.out
  simp only [Value.agg.injEq, Array.mk.injEq, List.cons.injEq, and_true, true_and] at ev
  obtain ⟨rfl, rfl⟩ := ev
  have hgd : ∀ {v : Value} {k : Nat} {xs : List Value}, w7.ownsRow V.heap.size 3 1 v k xs → v.ownBlock ≠ some (w.heap.size + 1) := fun h e => own_blk_ne h KR7.out (by decide) e.symm
  have P2 := store4_own (b := w.heap.size + 1) (v0 := .int .i64 (qn : Int)) (v1 := .int .i64 (nE : Int)) (v2 := .slice (some ⟨A2, 0, none⟩) (qn * qn) c2) (v3 := .slice (some ⟨A3, 0, none⟩) (qn * qn) c3) o2' (hgd o2')
  have P3 := store4_own (b := w.heap.size + 1) (v0 := .int .i64 (qn : Int)) (v1 := .int .i64 (nE : Int)) (v2 := .slice (some ⟨A2, 0, none⟩) (qn * qn) c2) (v3 := .slice (some ⟨A3, 0, none⟩) (qn * qn) c3) o3' (hgd o3')
  have P4 := store4_own (b := w.heap.size + 1) (v0 := .int .i64 (qn : Int)) (v1 := .int .i64 (nE : Int)) (v2 := .slice (some ⟨A2, 0, none⟩) (qn * qn) c2) (v3 := .slice (some ⟨A3, 0, none⟩) (qn * qn) c3) H4.out (hgd H4.out)
  refine bodyPost_ret (v := .tuple #[.agg #[.int .i64 (qn : Int), .int .i64 (nE : Int), .slice (some ⟨A2, 0, none⟩) (qn * qn) c2, .slice (some ⟨A3, 0, none⟩) (qn * qn) c3], .slice (some ⟨A4, 0, none⟩) m c4, .bool true]) ?_ rfl ⟨_, _, rfl, ⟨_, _, rfl, own_base P2 s2, own_base P3 s2, ap⟩, own_base P4 s2, HAB.out, store4_below B7.out (Nat.le_succ _)⟩
  exact results_cell_tmp2 Tryz.results24 _ _ (w.heap.size + 1) 25 _ _ _ _ rfl rfl rfl (store4_blk KR7.out) Tryz.underlying25 rfl (by kernel_rfl)

end Go.Proofs.YtajoimopahibcaaGreat



/- QuotientRing, on both sides, as the law wants it. -/
namespace Go.Proofs.YtajoimopahibcaaGreat
open Go.RowKit Go.Shelf
set_option maxRecDepth 100000

/-- The slices of a ring share no place with another slice. -/
def ApartRL (v u : Value) : Prop := ∀ (n o : Int) (A : Option Addr) (la ca : Nat) (B : Option Addr) (lb cb : Nat) (F : Option Addr) (lf cf : Nat), v = .agg #[.int .i64 n, .int .i64 o, .slice A la ca, .slice B lb cb] → u = .slice F lf cf → Apart A la F lf ∧ Apart B lb F lf
theorem apartRL_nil {v : Value} : ApartRL v (.slice none 0 0) := fun n o A la ca B lb cb F lf cf _ e => by
  injection e with e1 e2 e3
  subst e1 e2
  exact ⟨fun p _ h => (by obtain ⟨_, _, _, e, _⟩ := h; cases e), fun p _ h => (by obtain ⟨_, _, _, e, _⟩ := h; cases e)⟩
theorem apartRL_of {v u : Value} (h : ∀ b, b ∈ blkR v → b ∉ blkR u) : ApartRL v u := fun n o A la ca B lb cb F lf cf e1 e2 => by
  subst e1 e2
  refine ⟨fun p h1 h2 => ?_, fun p h1 h2 => ?_⟩
  · obtain ⟨g, off, k, rfl, _, rfl⟩ := h1
    obtain ⟨g', off', k', rfl, _, e⟩ := h2
    have e3 : g = g' := by injection e
    exact h g (by simp [blkR, sliceBlocks]) (by simp [blkR, e3])
  · obtain ⟨g, off, k, rfl, _, rfl⟩ := h1
    obtain ⟨g', off', k', rfl, _, e⟩ := h2
    have e3 : g = g' := by injection e
    exact h g (by simp [blkR, sliceBlocks]) (by simp [blkR, e3])

/-- What QuotientRing hands back. -/
noncomputable def quN (n o : Int) (X Y L : List Int) : Int := if isIdB n o X Y L = true then (qN n.toNat (tabOf X) (setL L) : Int) else 0
noncomputable def quO (n o : Int) (X Y L : List Int) : Int := if isIdB n o X Y L = true then (namK n.toNat (tabOf X) (setL L) n.toNat o.toNat : Int) else 0
noncomputable def quS (n o : Int) (X Y L : List Int) : List Int := if isIdB n o X Y L = true then numL (qN n.toNat (tabOf X) (setL L) * qN n.toNat (tabOf X) (setL L)) (quoF n.toNat (tabOf X) (setL L) (tabOf X)) else []
noncomputable def quP (n o : Int) (X Y L : List Int) : List Int := if isIdB n o X Y L = true then numL (qN n.toNat (tabOf X) (setL L) * qN n.toNat (tabOf X) (setL L)) (quoF n.toNat (tabOf X) (setL L) (tabOf Y)) else []
noncomputable def quM (n o : Int) (X Y L : List Int) : List Int := if isIdB n o X Y L = true then numL n.toNat (namK n.toNat (tabOf X) (setL L) n.toNat) else []

theorem rowP_own {w : World} {D g m : Nat} {f : Nat → Nat} (h : Blk w g 3 (rowP m f)) (hD : D ≤ g) (hm : m ≤ 16) : w.ownsRow D 3 1 (.slice (some ⟨g, 0, none⟩) m m) m (numV m f) :=
  ⟨by rw [numV_len]; omega, .inr ⟨g, m, rowP m f, rfl, hD, h, Nat.le_refl _, by unfold maxLen; omega, by simp [rowP], by rw [List.take_of_length_le (by simp [rowP])]; simp [rowP, numV, numL, Function.comp_def]⟩⟩

set_option maxHeartbeats 2000000 in
theorem squo_any (n o : Int) (A B C : Option Addr) (la ca lb cb len cap : Nat) (X Y L : List Int) (w : World) (hX : Ints w w.heap.size A la X) (hY : Ints w w.heap.size B lb Y) (hL : Ints w w.heap.size C len L) (hla : la ≤ 9223372036854775807) (hlb : lb ≤ 9223372036854775807) (hlen : len ≤ 9223372036854775807) (hca : la ≤ ca) (hcb : lb ≤ cb) :
    Calls Tryz.prog 25 #[.agg #[.int .i64 n, .int .i64 o, .slice A la ca, .slice B lb cb], .slice C len cap] w fun e w' => ∃ v u, e = .returned (.tuple #[v, u, .bool (isIdB n o X Y L)]) ∧ RingOutB w.heap.size w' v (quN n o X Y L) (quO n o X Y L) (quS n o X Y L) (quP n o X Y L) ∧ SliceOut w.heap.size w' u (quM n o X Y L) ∧ Below w.heap.size w w' := by
  cases hl : isIdB n o X Y L
  · refine (squo_no n o A B C la ca lb cb len cap X Y L w hl hX hY hL hla hlb hlen hca hcb).mono ?_
    rintro e' w' ⟨⟨g, rfl, hg, hg2⟩, hb⟩
    refine ⟨_, _, rfl, ?_, ?_, hb⟩
    · simp only [quN, quO, quS, quP, hl]
      exact RingOutB.zero
    · simp only [quM, hl]
      exact ⟨_, 0, 0, rfl, Own.nil, Nat.le_refl _, by omega⟩
  · obtain ⟨m, e, b1, o1, b2, o2, rfl, rfl, rfl, rfl, hr, _, _, _, _, _⟩ := valid_data (ide_data (isId_ide hl)).1 hX hY hca hcb
    obtain ⟨hv, hpI, hpL⟩ := isId_data hl
    have R := rtab_of_valid hv
    have hm' := hr.hm'
    have nm : qN m (tabOf X) (setL L) ≤ m := cnt_le
    have q256 := Nat.mul_le_mul (Nat.le_trans nm hm') (Nat.le_trans nm hm')
    refine (squo_yes C len cap X Y L (setL L) m e b1 o1 la ca b2 o2 lb cb w hr hl R hpI hpL hX hY hL hla hlb hlen hca hcb).mono ?_
    rintro e' w' ⟨v, g, rfl, hN, hg, hk, hb⟩
    refine ⟨_, _, rfl, ?_, ?_, hb⟩
    · simp only [quN, quO, quS, quP, hl, if_true, Int.toNat_natCast]
      exact hN.outB (by omega) numL_len numL_len
    · simp only [quM, hl, if_true, Int.toNat_natCast]
      exact SliceOut.of_row (rowP_own hk hg hm') numL_len (by omega)

set_option maxHeartbeats 2000000 in
theorem quo_any (n o : Int) (A B C : Option Addr) (la ca lb cb len cap : Nat) (X Y L : List Int) (w : World) (hX : Ints w w.heap.size A la X) (hY : Ints w w.heap.size B lb Y) (hL : Ints w w.heap.size C len L) (hla : la ≤ 9223372036854775807) (hlb : lb ≤ 9223372036854775807) (hlen : len ≤ 9223372036854775807) (hca : la ≤ ca) (hcb : lb ≤ cb) :
    Calls Tryz.prog 24 #[.agg #[.int .i64 n, .int .i64 o, .slice A la ca, .slice B lb cb], .slice C len cap] w fun e w' => ∃ v u, e = .returned (.tuple #[v, u, .bool (isIdB n o X Y L)]) ∧ RingOutB w.heap.size w' v (quN n o X Y L) (quO n o X Y L) (quS n o X Y L) (quP n o X Y L) ∧ SliceOut w.heap.size w' u (quM n o X Y L) ∧ ApartRL v u ∧ Below w.heap.size w w' := by
  cases hl : isIdB n o X Y L
  · refine (quo_no n o A B C la ca lb cb len cap X Y L w hl hX hY hL hla hlb hlen hca hcb).mono ?_
    rintro e' w' ⟨rfl, hb⟩
    refine ⟨_, _, rfl, ?_, ?_, apartRL_nil, hb⟩
    · simp only [quN, quO, quS, quP, hl]
      exact RingOutB.zero
    · simp only [quM, hl]
      exact SliceOut.nil
  · obtain ⟨m, e, b1, o1, b2, o2, rfl, rfl, rfl, rfl, hr, _, _, _, _, _⟩ := valid_data (ide_data (isId_ide hl)).1 hX hY hca hcb
    obtain ⟨hv, hpI, hpL⟩ := isId_data hl
    have R := rtab_of_valid hv
    have hm' := hr.hm'
    have nm : qN m (tabOf X) (setL L) ≤ m := cnt_le
    have q256 := Nat.mul_le_mul (Nat.le_trans nm hm') (Nat.le_trans nm hm')
    refine (quo_yes C len cap X Y L (setL L) m e b1 o1 la ca b2 o2 lb cb w hr hl rfl R hpI hX hY hL hla hlb hlen hca hcb).mono ?_
    rintro e' w' ⟨v, u, rfl, hN, hk, hap, hb⟩
    refine ⟨_, _, rfl, ?_, ?_, apartRL_of hap, hb⟩
    · simp only [quN, quO, quS, quP, hl, if_true, Int.toNat_natCast]
      exact hN.outB (by omega) numL_len numL_len
    · simp only [quM, hl, if_true, Int.toNat_natCast]
      exact SliceOut.of_row hk numL_len (by omega)

end Go.Proofs.YtajoimopahibcaaGreat

