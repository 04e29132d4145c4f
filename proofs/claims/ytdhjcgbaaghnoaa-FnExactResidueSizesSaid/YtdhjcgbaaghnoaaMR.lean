/- Texts of this seat in one: PH PI PJ PK PL PM PN PQ. -/
import Derived.Test.YtdhjcgbaaghnoaaMQ
import Derived.Maps.OwnSet
import Derived.Test.YtdhjcgbaaghnoaaMN
import Derived.Test.YtdhjcgbaaghnoaaMO
import Derived.Test.YtdhjcgbaaghnoaaMJ

/- An append of one element of several cells, inside a region that draws its order. -/
namespace Go.Proofs.Ytdhjcgbaaghnoaa
open Go.RowKit Go.Shelf
set_option maxRecDepth 100000

/-- What stores into a row of cells leave. -/
def setAll (cur : Array Value) : Nat → List Value → Array Value
  | _, [] => cur
  | o, v :: r => setAll (cur.setIfInBounds o v) (o + 1) r
theorem setAll_size : ∀ (vs : List Value) (cur : Array Value) (o : Nat), (setAll cur o vs).size = cur.size
  | [], _, _ => rfl
  | v :: r, cur, o => by rw [setAll, setAll_size r]; simp
theorem setAll_out : ∀ (vs : List Value) (cur : Array Value) (o j : Nat), (j < o ∨ o + vs.length ≤ j) → (setAll cur o vs)[j]? = cur[j]?
  | [], _, _, _, _ => rfl
  | v :: r, cur, o, j, h => by
    rw [setAll, setAll_out r _ (o + 1) j (by simp at h; omega), Array.getElem?_setIfInBounds, if_neg (by simp at h; omega)]
theorem setAll_in : ∀ (vs : List Value) (cur : Array Value) (o j : Nat), j < vs.length → o + j < cur.size → (setAll cur o vs)[o + j]? = vs[j]?
  | v :: r, cur, o, 0, _, hs => by
    rw [setAll, setAll_out r _ (o + 1) _ (by omega), Array.getElem?_setIfInBounds]
    simp at hs ⊢
    exact hs
  | v :: r, cur, o, j + 1, h, hs => by
    have := setAll_in r (cur.setIfInBounds o v) (o + 1) j (by simpa using h) (by simp; omega)
    rw [setAll, show o + (j + 1) = o + 1 + j by omega, this]
    simp
theorem Blk.setAll_ {g : Nat} {t : TypeId} : ∀ (vs : List Value) {w : World} {cur : Array Value} (o : Nat), Blk w g t cur → Blk (w.setCells g o vs) g t (setAll cur o vs)
  | [], _, _, _, h => h
  | v :: r, _, _, o, h => Blk.setAll_ r (o + 1) (h.set_ o v)

section
variable {D size bytes n b : Nat} {e t ty : TypeId} {i0 : TypeInfo} {z : Value} {v : Value} {x : World} {xs news : List Value}
theorem own_kept0 {u : Value} {w w' : World} {k : Nat} {ys : List Value} (h : w.ownsRow D e size u k ys) (hg : w.grownBy w' none) : w'.ownsRow D e size u k ys := World.ownsRow.kept h hg (by cases hv : u.ownBlock <;> simp)
/-- What has been appended stays, whichever of the values that own it is meant. -/
theorem run_appG (ht : Try.prog.underlying t = some (.slice e)) (hi : Try.prog.info? e = some i0) (hz0 : i0.zero = some z) (hz1 : i0.size = size) (hz2 : i0.bytes = bytes) (hz3 : z.cells.size = size) (hz4 : 0 < size)
    (hv : x.ownsRow D e size v n xs) (hl : news.length = size) (hb : ∀ (j : Nat) (u : Value), news[j]? = some u → x.cell? ⟨b, j, none⟩ = some u) (h1c : ∀ u ∈ news, u.oneCell' = true) (hk : n ≤ 1000) (hby : (n + 1) * bytes ≤ 140737488355328) (hD : D ≤ x.heap.size) :
    ∃ v' x', (Builtin.append_ #[t, t] ty #[v, .slice (some ⟨b, 0, none⟩) 1 1]).run Try.prog x = .ok v' x' ∧ x'.ownsRow D e size v' (n + 1) (xs ++ news) ∧ x.grownBy x' v.ownBlock ∧ (v'.ownBlock = v.ownBlock ∨ v'.ownBlock = some x.heap.size) ∧
      (∀ u, x.ownsRow D e size u (n + 1) (xs ++ news) → x'.ownsRow D e size u (n + 1) (xs ++ news)) ∧ ∀ u, x.ownsRow D e size u n xs → x'.ownsRow D e size u n xs := by
  have hsrc : ∀ (j : Nat) (u : Value), news[j]? = some u → x.cell? ((⟨b, 0, none⟩ : Addr).add j) = some u := fun j u hu => by
    have := addr_add b 0 j
    rw [Nat.zero_add] at this
    rw [this]
    exact hb j u hu
  obtain ⟨v', x', hrun, h1, h2, _, h4⟩ := run_append_own_at (P := Try.prog) x D t ty e i0 z size bytes ht hi hz0 hz1 hz2 hz3 hz4 v n xs hv ⟨b, 0, none⟩ 1 1 news (by omega) hsrc h1c (by unfold maxLen; omega) hby hD
  have hlx : xs.length = n * size := hv.1
  have main : ∀ (k' : Nat) (ys : List Value) (u : Value), (k' = n ∧ ys = xs ∨ k' = n + 1 ∧ ys = xs ++ news) → x.ownsRow D e size u k' ys → x'.ownsRow D e size u k' ys := fun k' ys u hk' hu => by
    rcases hv.2 with ⟨rfl, h0⟩ | ⟨g, cap, cur, rfl, hg, hblk, hc, hcm, hs, hta⟩
    · exact own_kept0 hu h2
    · by_cases hr : n + 1 ≤ cap
      · have hbl : Blk x g e cur := hblk
        have hsz : (n + 1) * size ≤ cur.size := by rw [hs]; exact Nat.mul_le_mul_right _ hr
        rw [Nat.add_mul, Nat.one_mul] at hsz
        have hrun2 := run_append_room_cells (P := Try.prog) x t ty e i0 ht hi g 0 n cap ⟨b, 0, none⟩ 1 1 news (by rw [hz1]; omega) hsrc h1c hr
          (fun j hj => by rw [hz1, Nat.zero_add, hbl.cell, Array.getElem?_eq_getElem (by omega)]; rfl) (fun j hj => by rw [hz1, Nat.zero_add]; exact hbl.frozen _)
        rw [hrun] at hrun2
        injection hrun2 with e1 e2
        rw [hz1, Nat.zero_add] at e2
        subst e2
        by_cases hug : u.ownBlock = some g
        · rcases hu.2 with ⟨e0, _⟩ | ⟨g2, cap2, cur2, rfl, hg2, hblk2, hc2, hcm2, hs2, ht2⟩
          · subst e0; cases hug
          · have e3 : g2 = g := by simpa [Value.ownBlock] using hug
            subst e3
            have e4 : cur2 = cur := by
              have := hblk2.symm.trans hblk
              simp only [Option.some.injEq, Obj.cells.injEq, and_true] at this
              exact this
            subst e4
            refine ⟨hu.1, .inr ⟨g2, cap2, _, rfl, hg2, hbl.setAll_ news (n * size), hc2, hcm2, by rw [setAll_size]; exact hs2, ?_⟩⟩
            rw [← ht2]
            refine List.ext_getElem? fun j => ?_
            rw [List.getElem?_take, List.getElem?_take]
            by_cases hj : j < k' * size
            · rw [if_pos hj, if_pos hj, Array.getElem?_toList, Array.getElem?_toList]
              by_cases hjn : j < n * size
              · exact setAll_out _ _ _ _ (.inl hjn)
              · rcases hk' with ⟨rfl, _⟩ | ⟨rfl, rfl⟩
                · exact absurd hj hjn
                · rw [Nat.add_mul, Nat.one_mul] at hj
                  obtain ⟨q, rfl⟩ : ∃ q, j = n * size + q := ⟨j - n * size, by omega⟩
                  rw [setAll_in _ _ _ _ (by omega) (by omega)]
                  have e5 : cur2.toList[n * size + q]? = (xs ++ news)[n * size + q]? := by rw [← ht2, List.getElem?_take, if_pos (by rw [Nat.add_mul, Nat.one_mul]; omega)]
                  rw [← Array.getElem?_toList, e5, List.getElem?_append_right (by omega), hlx]
                  congr 1
                  omega
            · rw [if_neg hj, if_neg hj]
        · exact World.ownsRow.kept hu h2 (.inr hug)
      · obtain ⟨v2, x2, hrun2, _, hg2⟩ := run_append_arg_grows (P := Try.prog) x t ty e i0 z size bytes ht hi hz0 hz1 hz2 hz3 hz4 ⟨g, 0, none⟩ n cap xs (by omega) (fun j u hu => by
            have hj : j < n * size := by have := (List.getElem?_eq_some_iff.1 hu).1; omega
            have hbl : Blk x g e cur := hblk
            have e0 : (⟨g, 0, none⟩ : Addr).add j = ⟨g, j, none⟩ := by have := addr_add g 0 j; rwa [Nat.zero_add] at this
            have e5 : cur.toList[j]? = xs[j]? := by rw [← hta, List.getElem?_take, if_pos hj]
            rw [e0, hbl.cell, ← Array.getElem?_toList, e5, hu]) ⟨b, 0, none⟩ 1 1 news (by omega) hsrc (by omega) (by unfold maxLen; omega) hby
        rw [hrun] at hrun2
        injection hrun2 with e1 e2
        subst e2
        exact own_kept0 hu hg2
  exact ⟨v', x', hrun, h1, h2, h4, fun u hu => main _ _ u (.inr ⟨rfl, rfl⟩) hu, fun u hu => main _ _ u (.inl ⟨rfl, rfl⟩) hu⟩
end

/-! ### what a region asks of such an append: a slice of one element (maker a) and the append (maker b) -/
def GpR (row : Option Nat) (D : Nat) (e : TypeId) (size n : Nat) (xs news : List Value) (w w' : World) : Prop :=
  w.grownBy w' row ∧ (∀ u, w.ownsRow D e size u (n + 1) (xs ++ news) → w'.ownsRow D e size u (n + 1) (xs ++ news)) ∧ ∀ u, w.ownsRow D e size u n xs → w'.ownsRow D e size u n xs
section
variable {row : Option Nat} {D D0 size n : Nat} {e : TypeId} {xs news : List Value} {ia ib : Nat}
theorem GpR.refl (w : World) : GpR row D e size n xs news w w := ⟨grownBy_refl w, fun _ h => h, fun _ h => h⟩
theorem GpR.trans (a b c : World) (h : GpR row D e size n xs news a b) (h' : GpR row D e size n xs news b c) : GpR row D e size n xs news a c := ⟨grownBy_trans h.1 h'.1, fun v hv => h'.2.1 v (h.2.1 v hv), fun v hv => h'.2.2 v (h.2.2 v hv)⟩
theorem GpR.of_below {w w' : World} (hb : Below w.heap.size w w') : GpR row D e size n xs news w w' := ⟨grownBy_below hb, fun _ h => own_nextK h hb, fun _ h => own_nextK h hb⟩
theorem GpR.drew (w : World) : GpR row D e size n xs news w w.drew := GpR.of_below (Below.refl _ _).drew
structure GpPhi (ia ib : Nat) (row : Option Nat) (D D0 : Nat) (e : TypeId) (size n : Nat) (xs news : List Value) (i : Nat) (v : Value) (w : World) : Prop where
  pa : i = ia → ∃ g, v = .slice (some ⟨g, 0, none⟩) 1 1 ∧ some g ≠ row ∧ g < w.heap.size ∧ ∀ (j : Nat) (u : Value), news[j]? = some u → w.cell? ⟨g, j, none⟩ = some u
  pb : i = ib → w.ownsRow D e size v (n + 1) (xs ++ news) ∧ (v.ownBlock = row ∨ ∃ g, v.ownBlock = some g ∧ D0 ≤ g)
structure GpSh (ia ib n : Nat) (i : Nat) (v : Value) : Prop where
  pa : i = ia → ∃ g, v = .slice (some ⟨g, 0, none⟩) 1 1
  pb : i = ib → ∃ g q, v = .slice (some ⟨g, 0, none⟩) (n + 1) q
theorem GpPhi_stable (i : Nat) (v : Value) (w w' : World) (h : GpPhi ia ib row D D0 e size n xs news i v w) (hr : GpR row D e size n xs news w w') : GpPhi ia ib row D D0 e size n xs news i v w' :=
  ⟨fun e => by
    obtain ⟨g, h1, h2, h3, h4⟩ := h.pa e
    exact ⟨g, h1, h2, Nat.lt_of_lt_of_le h3 hr.1.size, fun j u hu => (World.cell?_of_block (a := ⟨g, j, none⟩) (hr.1.block g h3 h2)).trans (h4 j u hu)⟩, fun e => ⟨hr.2.1 v (h.pb e).1, (h.pb e).2⟩⟩
theorem GpSh_of (i : Nat) (v : Value) (w : World) (h : GpPhi ia ib row D D0 e size n xs news i v w) : GpSh ia ib n i v :=
  ⟨fun e => by obtain ⟨g, h1, _⟩ := h.pa e; exact ⟨g, h1⟩, fun e => by
    rcases (h.pb e).1.2 with ⟨_, h1⟩ | ⟨g, cap, cur, h1, _⟩
    · omega
    · exact ⟨_, _, h1⟩⟩
end
def gp0 (ia n i : Nat) : Value := if i = ia then .slice (some ⟨0, 0, none⟩) 1 1 else .slice (some ⟨0, 0, none⟩) (n + 1) 0
theorem GpSh_zero {ia ib n : Nat} (h : ia ≠ ib) (i : Nat) : GpSh ia ib n i (gp0 ia n i) := ⟨fun e => by subst e; exact ⟨0, by simp [gp0]⟩, fun e => by subst e; exact ⟨0, 0, by simp [gp0, Ne.symm h]⟩⟩
instance (row : Option Nat) (D : Nat) (e : TypeId) (size n : Nat) (xs news : List Value) (V : World) : Nonempty (ExtR (GpR row D e size n xs news) V) := ⟨⟨V, GpR.refl V⟩⟩

theorem makes_appG {row : Option Nat} {D D0 size bytes n b : Nat} {e t : TypeId} {i0 : TypeInfo} {z : Value} {xs news : List Value} {o : Oper} {a : Act} (s y : Operand) (hop : o.op = .call { callee := .builtin .append, args := #[s, y], argTypes := #[t, t] }) (v : Value) (x : World)
    (ht : Try.prog.underlying t = some (.slice e)) (hi : Try.prog.info? e = some i0) (hz0 : i0.zero = some z) (hz1 : i0.size = size) (hz2 : i0.bytes = bytes) (hz3 : z.cells.size = size) (hz4 : 0 < size)
    (hs : a.eval s = v) (hx : a.eval y = .slice (some ⟨b, 0, none⟩) 1 1) (hv : x.ownsRow D e size v n xs) (hr : v.ownBlock = row) (hl : news.length = size) (hb : ∀ (j : Nat) (u : Value), news[j]? = some u → x.cell? ⟨b, j, none⟩ = some u) (h1c : ∀ u ∈ news, u.oneCell' = true)
    (hk : n ≤ 1000) (hby : (n + 1) * bytes ≤ 140737488355328) (hD : D ≤ x.heap.size) (hD0 : D0 ≤ x.heap.size) :
    makesAtR Try.prog (GpR row D e size n xs news) (fun _ => True) o a x fun u x' => x'.ownsRow D e size u (n + 1) (xs ++ news) ∧ (u.ownBlock = row ∨ ∃ g, u.ownBlock = some g ∧ D0 ≤ g) := by
  obtain ⟨v', x', hrun, h1, h2, h3, h4, h5⟩ := run_appG (ty := o.type) ht hi hz0 hz1 hz2 hz3 hz4 hv hl hb h1c hk hby hD
  unfold makesAtR execOp
  simp only [hop, resolve, invoke, builtin, Sem.run_bind, Sem.run_pure, Result.andThen_ok, List.map_toArray, List.map_cons, List.map_nil, hs, hx, hrun, makesUponR]
  rw [hr] at h2 h3
  exact ⟨⟨h2, h4, h5⟩, trivial, h1, h3.imp id fun h => ⟨_, h, hD0⟩⟩

end Go.Proofs.Ytdhjcgbaaghnoaa


/- A map from elements to classes: what it holds, element by element. -/
namespace Go.Proofs.Ytdhjcgbaaghnoaa
open Go.RowKit Go.Shelf
set_option maxRecDepth 100000

def clsD (a b : Int) : DataW Unit := .agg [.lit (.int .i64 a), .lit (.int .i64 b)]
/-- How a class in a map reads. -/
def clsE (v : Value) : Option (DataW Unit × List MemPlace) := match v with
  | .agg cs => match cs.toList with
    | [.int .i64 a, .int .i64 b] => some (clsD a b, [])
    | _ => none
  | _ => none
theorem clsE_mk (a b : Int) : clsE (.agg #[.int .i64 a, .int .i64 b]) = some (clsD a b, []) := rfl
theorem clsE_inv {v : Value} {a b : Int} {ps : List MemPlace} (h : clsE v = some (clsD a b, ps)) : v = .agg #[.int .i64 a, .int .i64 b] := by
  unfold clsE at h
  split at h
  · rename_i cs
    split at h
    · rename_i a' b' e
      simp only [clsD, Option.some.injEq, Prod.mk.injEq, DataW.agg.injEq, List.cons.injEq, DataW.lit.injEq, Lit.int.injEq, true_and, and_true] at h
      obtain ⟨⟨rfl, rfl⟩, _⟩ := h
      congr 1
      exact Array.ext' (by simpa using e)
    · cases h
  · cases h

theorem law_cls : Go.Maps.Keyed Try.prog 3 := Go.Maps.int_keyed Try.underlying3
theorem wf_nat {x : Nat} (h : x ≤ 1000000) : (Lit.int .i64 (x : Int)).wf = true := WalkArith.wf_i64 (by omega)
theorem key_nat {x : Nat} (h : x ≤ 1000000) : keyOf Try.prog 3 (.int .i64 (x : Int)) = some (.int .i64 (x : Int)) := Go.Maps.keyOf_int_mk Try.underlying3 (wf_nat h)
theorem lit_nat {x : Nat} (h : x ≤ 1000000) : WideAt.IsKeyLit (.int .i64 (x : Int)) := law_cls.key (key_nat h)

/-- Block b is a map of at most k entries that holds these classes. -/
def MapC (k : Nat) (w : World) (b : Nat) (f : Nat → Option (Nat × Nat)) : Prop :=
  ∃ n D, n ≤ k ∧ w.ownsMap Try.prog 3 clsE b n D ∧ ∀ x : Nat, x ≤ 1000000 → (f x = none → Maps.has D (.int .i64 (x : Int)) = false) ∧ ∀ i l, f x = some (i, l) → Maps.has D (.int .i64 (x : Int)) = true ∧ ∀ z, D.atKey (.int .i64 (x : Int)) z = clsD i l
section
variable {k b : Nat} {w w' : World} {f : Nat → Option (Nat × Nat)}
theorem MapC.lt (h : MapC k w b f) : b < w.heap.size := by obtain ⟨n, D, _, h1, _⟩ := h; exact h1.lt
theorem MapC.kept {row : Option Nat} (h : MapC k w b f) (hg : w.grownBy w' row) (hne : some b ≠ row) : MapC k w' b f := by
  obtain ⟨n, D, h0, h1, h2⟩ := h
  exact ⟨n, D, h0, h1.kept hg hne, h2⟩
theorem MapC.next (h : MapC k w b f) (hb : Below w.heap.size w w') : MapC k w' b f := h.kept (row := none) (grownBy_below hb) (by simp)
theorem MapC.heap (h : MapC k w b f) (hh : w'.heap[b]? = w.heap[b]?) : MapC k w' b f := by
  obtain ⟨n, D, h0, ⟨es, clock, hb, rest⟩, h2⟩ := h
  exact ⟨n, D, h0, ⟨es, clock, hh.trans hb, rest⟩, h2⟩
theorem MapC.ne_blk {t : TypeId} {cs : Array Value} (h : MapC k w b f) (hb : Blk w b t cs) : False := by
  obtain ⟨n, D, _, ⟨es, clock, h1, _⟩, _⟩ := h
  unfold Blk at hb
  rw [h1] at hb
  cases hb
theorem MapC.ne_row {D n size : Nat} {e : TypeId} {v : Value} {xs : List Value} (h : MapC k w b f) (hv : w.ownsRow D e size v n xs) (he : some b = v.ownBlock) : False := by
  rcases hv.2 with ⟨rfl, _⟩ | ⟨g, cap, cur, rfl, _, hh, _⟩
  · cases he
  · simp only [Value.ownBlock, Option.some.injEq] at he
    subst he
    exact h.ne_blk (t := e) (cs := cur) hh
theorem MapC.congr {g : Nat → Option (Nat × Nat)} (h : MapC k w b f) (hfg : ∀ x, x ≤ 1000000 → f x = g x) : MapC k w b g := by
  obtain ⟨n, D, h0, h1, h2⟩ := h
  exact ⟨n, D, h0, h1, fun x hx => by rw [← hfg x hx]; exact h2 x hx⟩
theorem MapC.more (h : MapC k w b f) {k' : Nat} (hk : k ≤ k') : MapC k' w b f := by
  obtain ⟨n, D, h0, h1⟩ := h
  exact ⟨n, D, Nat.le_trans h0 hk, h1⟩
theorem MapC.made (w : World) : MapC 0 (w.alloc (.map #[] 0)) w.heap.size (fun _ => none) :=
  ⟨0, .map [], Nat.le_refl _, World.ownsMap_made _ _ _ _, fun _ _ => ⟨fun _ => rfl, fun _ _ h => by cases h⟩⟩
end

end Go.Proofs.Ytdhjcgbaaghnoaa


/- addClass of the program: one more class. -/
namespace Go.Proofs.Ytdhjcgbaaghnoaa
open Go.RowKit Go.Shelf
set_option maxRecDepth 100000
attribute [local go_sem] Oper.semAt_some

/-- The classes as a row of their cells. -/
def clsV (l : List Nat) : List Value := (List.range l.length).flatMap fun (i : Nat) => [.int .i64 (i : Int), .int .i64 (l.getD i 0 : Int)]
theorem clsV_len {l : List Nat} : (clsV l).length = l.length * 2 := by
  unfold clsV
  rw [List.length_flatMap]
  have : ∀ n : Nat, ((List.range n).map fun (_ : Nat) => 2).sum = n * 2 := fun n => by
    induction n with
    | zero => rfl
    | succ n ih => rw [List.range_succ, List.map_append, List.sum_append, ih]; simp; omega
  exact this l.length
theorem clsV_snoc {l : List Nat} {a : Nat} : clsV (l ++ [a]) = clsV l ++ [.int .i64 (l.length : Int), .int .i64 (a : Int)] := by
  unfold clsV
  rw [List.length_append, List.length_singleton, List.range_succ, List.flatMap_append]
  have h1 : (List.range l.length).flatMap (fun (i : Nat) => [Value.int .i64 (i : Int), Value.int .i64 ((l ++ [a]).getD i 0 : Int)]) = (List.range l.length).flatMap (fun (i : Nat) => [Value.int .i64 (i : Int), Value.int .i64 (l.getD i 0 : Int)]) := by
    rw [List.flatMap_def, List.flatMap_def]
    congr 1
    refine List.map_congr_left fun i hi => ?_
    have hi' : i < l.length := by simpa using hi
    simp [List.getElem?_append_left hi']
  rw [h1]
  simp
/-- The cells of a quotient's box. -/
def quoC (m e b1 o1 la ca b2 o2 lb cb : Nat) (vC : Value) (bm : Nat) : Array Value := #[.int .i64 m, .int .i64 e, .slice (some ⟨b1, o1, none⟩) la ca, .slice (some ⟨b2, o2, none⟩) lb cb, vC, .map (some bm)]

theorem ownFrom_map {β : Type} {B bm : Nat} {kf : β → Nat} {ff : β → Nat → Option (Nat × Nat)} (h : bm < B) : OwnFrom B (fun s W => MapC (kf s) W bm (ff s)) := fun s W W' row hs hg hr => hs.kept hg (fun e => by
  have := (hr bm e.symm).1
  omega)
theorem ownFrom_row {β : Type} {B D size n : Nat} {e : TypeId} {v : Value} {xs : List Value} : OwnFrom B (fun (_ : β) W => W.ownsRow D e size v n xs) := fun s W W' row hs hg hr => World.ownsRow.kept hs hg (by
  rcases hs.2 with ⟨rfl, _⟩ | ⟨g, cap, cur, rfl, _, hh, _⟩
  · exact .inl rfl
  · refine .inr fun e' => ?_
    obtain ⟨_, o, ho, hc⟩ := hr g (by rw [← e']; rfl)
    rw [hh] at ho
    cases ho
    cases hc)
theorem wpList_update_run {P : Program} (w w' : World) {ops : Array Oper} {rest : List Oper} {o : Oper} {a : Act} {Q : Exit → Act → World → Prop}
    (hg : o.guard = none) (m x v : Operand) (t : TypeId) (hop : o.op = Op.mapUpdate t m x v) (mv kv vv : Value) (hm : a.eval m = mv) (hx : a.eval x = kv) (hv : a.eval v = vv) (hrun : (Instr.mapUpdate t mv kv vv).run P w = .ok () w')
    (h : wpList P ops Q rest (a.put o.dst undef) w') : wpList P ops Q (o :: rest) a w := by
  refine wpList_plain hg fun K' hK' => ?_
  unfold Oper.wp
  simp [execOp, hop, hm, hx, hv, hrun, Result.andThen]
  exact hK' _ _ h

theorem map_snoc {T : Nat → Nat} {v : Nat × Nat} {f : Nat → Option (Nat × Nat)} {m y : Nat} {pre : List (Fin m)} {x : Fin m} : (if y = T x.1 then some v else if decide (y ∈ (finN pre).map fun b => T b) = true then some v else f y) = if decide (y ∈ (finN (pre ++ [x])).map fun b => T b) = true then some v else f y := by
  have e : (finN (pre ++ [x])).map (fun b => T b) = (finN pre).map (fun b => T b) ++ [T x.1] := by simp [finN]
  rw [e]
  by_cases h : y = T x.1
  · rw [if_pos h, if_pos (by simp [h])]
  · rw [if_neg h]
    by_cases h2 : y ∈ (finN pre).map fun b => T b
    · rw [if_pos (by rw [decide_eq_true_iff]; exact h2), if_pos (by rw [decide_eq_true_iff]; exact List.mem_append_left _ h2)]
    · rw [if_neg (by rw [decide_eq_true_iff]; exact h2), if_neg (by rw [decide_eq_true_iff, List.mem_append, List.mem_singleton]; exact fun h3 => h3.elim h2 h)]
theorem blk_putObj {V : World} {g l : Nat} {t : TypeId} {cs : Array Value} {o o' : Obj} (h : Blk V g t cs) (hl : V.heap[l]? = some o) (ho : o.isCells = false) : Blk (V.putObj l o') g t cs :=
  (ownFrom_blk 0 g t (fun (_ : Unit) => cs)).putObj o' (s := ()) h (Nat.zero_le _) hl ho

def acMk (i : Nat) : Bool := i == 7
structure AcSh (i : Nat) (v : Value) : Prop where
  p7 : i = 7 → ∃ g, v = .pointer (some ⟨g, 0, none⟩)
theorem AcSh_zero (i : Nat) : AcSh i (.pointer (some ⟨0, 0, none⟩)) := ⟨fun _ => ⟨0, rfl⟩⟩

end Go.Proofs.Ytdhjcgbaaghnoaa


/- quotientOf of the program: all classes by an ideal. -/
namespace Go.Proofs.Ytdhjcgbaaghnoaa
open Go.RowKit Go.Shelf
set_option maxRecDepth 100000

/-- The class of an element, among those of the elements below k. -/
noncomputable def fmC (m : Nat) (S : Nat → Nat) (p : Nat → Bool) (k x : Nat) : Option (Nat × Nat) := if donB m S p k x = true then some (namK m S p k x, ((leas m S p k)[namK m S p k x]?).getD 0) else none
section
variable {m e k : Nat} {S P : Nat → Nat} {p : Nat → Bool}
theorem fm_zero {x : Nat} : fmC m S p 0 x = none := rfl
theorem fm_no (h : donB m S p k k = true) : fmC m S p (k + 1) = fmC m S p k := funext fun x => by unfold fmC namK; rw [don_no h, leas_no h]
theorem mem_cos {x : Nat} (hp : ∀ i, p i = true → i < m) : x ∈ (finN (selTo m p m)).map (fun b => S (k * m + b)) ↔ cosB m S p k x = true := by
  rw [List.mem_map, cos_iff]
  constructor
  · rintro ⟨b, hb, rfl⟩; exact ⟨b, (lst_in.1 hb).2, rfl⟩
  · rintro ⟨b, hb, rfl⟩; exact ⟨b, lst_in.2 ⟨hp b hb, hb⟩, rfl⟩
theorem RTab.fm_yes (R : RTab m S P e) (hp : Idl m S P p) (hk : k < m) (h : donB m S p k k = false) (x : Nat) :
    (if decide (x ∈ (finN (selTo m p m)).map fun b => S (k * m + b)) = true then some ((leas m S p k).length, k) else fmC m S p k x) = fmC m S p (k + 1) x := by
  by_cases hc : cosB m S p k x = true
  · rw [if_pos (by rw [decide_eq_true_iff]; exact (mem_cos hp.lt).2 hc)]
    have hn : (leas m S p k).any (fun a => cosB m S p a x) = false := by
      rw [← Bool.not_eq_true]
      intro ha
      obtain ⟨a, h1, h2⟩ := List.any_eq_true.1 ha
      have := R.cos_trans hp (Nat.lt_trans (leas_lt h1) hk) h2 (R.cos_symm hp hk hc)
      unfold donB at h
      rw [List.any_eq_true.2 ⟨a, h1, this⟩] at h
      cases h
    unfold fmC
    rw [don_yes h]
    have e1 : namK m S p (k + 1) x = (leas m S p k).length := by unfold namK; rw [leas_yes h]; exact findIdx_new hn hc
    rw [if_pos (by simp [hc]), e1, leas_yes h]
    simp
  · rw [if_neg (by rw [decide_eq_true_iff]; intro h2; exact hc ((mem_cos hp.lt).1 h2))]
    unfold fmC
    rw [don_yes h]
    have hcf : cosB m S p k x = false := by rw [← Bool.not_eq_true]; exact hc
    simp only [hcf, Bool.or_false]
    by_cases hd : donB m S p k x = true
    · rw [if_pos hd, if_pos hd]
      have e1 : namK m S p (k + 1) x = namK m S p k x := by unfold namK; rw [leas_yes h]; exact findIdx_app hd
      obtain ⟨hl, _⟩ := nam_get (k := k) (x := x) hd
      rw [e1, leas_yes h, List.getElem?_append_left hl]
    · rw [if_neg hd, if_neg hd]
theorem fm_none {x : Nat} (h : donB m S p k x = false) : fmC m S p k x = none := if_neg (by rw [h]; simp)
theorem fm_some {x : Nat} (h : donB m S p k x = true) : fmC m S p k x = some (namK m S p k x, ((leas m S p k)[namK m S p k x]?).getD 0) := if_pos h
theorem RTab.don_all (R : RTab m S P e) (hp : Idl m S P p) {x : Nat} (hx : x < m) : donB m S p m x = true := by
  obtain ⟨a, h1, h2⟩ := R.leas_cover hp (Nat.le_refl m) hx
  exact List.any_eq_true.2 ⟨a, h1, h2⟩
end

/-- A box of six cells is filled. -/
def set6 (w : World) (b : Nat) (v0 v1 v2 v3 v4 v5 : Value) : World := (((((w.setCell ⟨b, 0, none⟩ v0).setCell ⟨b, 1, none⟩ v1).setCell ⟨b, 2, none⟩ v2).setCell ⟨b, 3, none⟩ v3).setCell ⟨b, 4, none⟩ v4).setCell ⟨b, 5, none⟩ v5
section
variable {w : World} {b : Nat} {v0 v1 v2 v3 v4 v5 : Value}
theorem set6_blk {a0 a1 a2 a3 a4 a5 : Value} {t : TypeId} (h : Blk w b t #[a0, a1, a2, a3, a4, a5]) : Blk (set6 w b v0 v1 v2 v3 v4 v5) b t #[v0, v1, v2, v3, v4, v5] := by
  have := (((((h.set_ 0 v0).set_ 1 v1).set_ 2 v2).set_ 3 v3).set_ 4 v4).set_ 5 v5
  simpa [set6] using this
theorem set6_own {D n size : Nat} {e : TypeId} {v : Value} {xs : List Value} (h : w.ownsRow D e size v n xs) (hb : v.ownBlock ≠ some b) : (set6 w b v0 v1 v2 v3 v4 v5).ownsRow D e size v n xs :=
  ownsRow_setCell_other (ownsRow_setCell_other (ownsRow_setCell_other (ownsRow_setCell_other (ownsRow_setCell_other (ownsRow_setCell_other h hb _) hb _) hb _) hb _) hb _) hb _
theorem set6_heap {g : Nat} (hg : g ≠ b) : (set6 w b v0 v1 v2 v3 v4 v5).heap[g]? = w.heap[g]? := by
  unfold set6
  rw [Below.heap_setCell _ ⟨b, 5, none⟩ _ g hg, Below.heap_setCell _ ⟨b, 4, none⟩ _ g hg, Below.heap_setCell _ ⟨b, 3, none⟩ _ g hg, Below.heap_setCell _ ⟨b, 2, none⟩ _ g hg, Below.heap_setCell _ ⟨b, 1, none⟩ _ g hg, Below.heap_setCell _ ⟨b, 0, none⟩ _ g hg]
theorem set6_below {D : Nat} {w' : World} (h : Below D w' w) (hb : D ≤ b) : Below D w' (set6 w b v0 v1 v2 v3 v4 v5) :=
  (((((h.setCell (p := ⟨b, 0, none⟩) hb _).setCell (p := ⟨b, 1, none⟩) hb _).setCell (p := ⟨b, 2, none⟩) hb _).setCell (p := ⟨b, 3, none⟩) hb _).setCell (p := ⟨b, 4, none⟩) hb _).setCell (p := ⟨b, 5, none⟩) hb _
end

end Go.Proofs.Ytdhjcgbaaghnoaa


/- The methods of a quotient. -/
namespace Go.Proofs.Ytdhjcgbaaghnoaa
open Go.RowKit Go.Shelf
set_option maxRecDepth 100000

/-- What the walk of 'made' asks of a making whose sums and products are another value's. -/
structure MakingP (w0 : World) (mv rv : Value) (fsize fone felement fnumber fsum fproduct : Nat) (m o : Nat) (El : Nat → Value) (SV PV : Nat → Nat → Value) (S P : Nat → Nat → Nat) (oneV : Value) : Prop where
  size : ∀ w, Below w0.heap.size w0 w → Calls Try.prog fsize #[mv] w fun e w' => e = .returned (.int .i64 m) ∧ Below w.heap.size w w'
  one : ∀ w, Below w0.heap.size w0 w → Calls Try.prog fone #[mv] w fun e w' => e = .returned oneV ∧ Below w.heap.size w w'
  oneNum : ∀ w, Below w0.heap.size w0 w → Calls Try.prog fnumber #[mv, oneV] w fun e w' => e = .returned (.int .i64 o) ∧ Below w.heap.size w w'
  element : ∀ w, Below w0.heap.size w0 w → ∀ a, a < m → Calls Try.prog felement #[mv, .int .i64 a] w fun e w' => e = .returned (El a) ∧ Below w.heap.size w w'
  sum : ∀ w, Below w0.heap.size w0 w → ∀ a b, a < m → b < m → Calls Try.prog fsum #[rv, El a, El b] w fun e w' => e = .returned (SV a b) ∧ Below w.heap.size w w'
  product : ∀ w, Below w0.heap.size w0 w → ∀ a b, a < m → b < m → Calls Try.prog fproduct #[rv, El a, El b] w fun e w' => e = .returned (PV a b) ∧ Below w.heap.size w w'
  sumNum : ∀ w, Below w0.heap.size w0 w → ∀ a b, a < m → b < m → Calls Try.prog fnumber #[mv, SV a b] w fun e w' => e = .returned (.int .i64 (S a b)) ∧ Below w.heap.size w w'
  prodNum : ∀ w, Below w0.heap.size w0 w → ∀ a b, a < m → b < m → Calls Try.prog fnumber #[mv, PV a b] w fun e w' => e = .returned (.int .i64 (P a b)) ∧ Below w.heap.size w w'

theorem clsV_get {l : List Nat} : ∀ {i : Nat}, i < l.length → (clsV l)[i * 2 + 1]? = some (.int .i64 (l.getD i 0 : Int)) := by
  intro i hi
  obtain ⟨k, hk⟩ : ∃ k, l.length = k := ⟨_, rfl⟩
  induction k generalizing l with
  | zero => omega
  | succ k ih =>
    obtain ⟨l', a, rfl⟩ : ∃ l' a, l = l' ++ [a] := by
      have hne : l ≠ [] := fun e => by subst e; simp at hk
      exact ⟨l.dropLast, l.getLast hne, (List.dropLast_concat_getLast hne).symm⟩
    have hl : l'.length = k := by simpa using hk
    rw [clsV_snoc]
    by_cases h2 : i < l'.length
    · rw [List.getElem?_append_left (by rw [clsV_len]; omega), ih h2 hl]
      simp [List.getElem?_append_left h2]
    · have e1 : i = l'.length := by simp at hi; omega
      subst e1
      rw [List.getElem?_append_right (by rw [clsV_len]; omega), clsV_len]
      have e2 : l'.length * 2 + 1 - l'.length * 2 = 1 := by omega
      rw [e2]
      simp

section
variable {m e b1 o1 la ca b2 o2 lb cb : Nat} {vC : Value} {bm : Nat}
end

end Go.Proofs.Ytdhjcgbaaghnoaa


/- The program's maker of rings, at a quotient. -/
namespace Go.Proofs.Ytdhjcgbaaghnoaa
open Go.RowKit
set_option maxRecDepth 100000

end Go.Proofs.Ytdhjcgbaaghnoaa


/- The ring of a quotient, as the program makes it. -/
namespace Go.Proofs.Ytdhjcgbaaghnoaa
open Go.RowKit Go.Shelf
set_option maxRecDepth 100000

theorem tab_quo {m n : Nat} {S : Nat → Nat} {p : Nat → Bool} {T : Nat → Nat} (hn : qN m S p = n) : tabZ n (fun a b => namK m S p m (T (leaN m S p a * m + leaN m S p b))) (n * n) = numL (n * n) (quoF m S p T) := by
  subst hn; rfl

end Go.Proofs.Ytdhjcgbaaghnoaa


/- PushIdeal of the program. -/
namespace Go.Proofs.Ytdhjcgbaaghnoaa
open Go.RowKit Go.Shelf
set_option maxRecDepth 100000

theorem isId_val {n o : Int} {A B C : Option Addr} {la ca lb cb len cap : Nat} {X Y L : List Int} {w : World} {b : Bool} (h2 : isIdB n o X Y L = b) (hX : Ints w w.heap.size A la X) (hY : Ints w w.heap.size B lb Y) (hL : Ints w w.heap.size C len L) (hla : la ≤ 9223372036854775807) (hlb : lb ≤ 9223372036854775807) (hlen : len ≤ 9223372036854775807) (hca : la ≤ ca) (hcb : lb ≤ cb) :
    Calls Try.prog 44 #[.agg #[.int .i64 n, .int .i64 o, .slice A la ca, .slice B lb cb], .slice C len cap] w fun e' w' => e' = .returned (.bool b) ∧ Below w.heap.size w w' := h2 ▸ isId_any n o A B C la ca lb cb len cap X Y L w hX hY hL hla hlb hlen hca hcb

def pqMk (i : Nat) : Bool := i == 2 || i == 4
structure PqPhi (qn nE D : Nat) (Z : List Int) (i : Nat) (v : Value) (w : World) : Prop where
  p2 : i = 2 → ∃ A c B d, v = .agg #[.int .i64 (qn : Int), .int .i64 (nE : Int), .slice A (qn * qn) c, .slice B (qn * qn) d]
  p4 : i = 4 → SliceOut D w v Z
structure PqSh (qn nE : Nat) (i : Nat) (v : Value) : Prop where
  p2 : i = 2 → ∃ A c B d, v = .agg #[.int .i64 (qn : Int), .int .i64 (nE : Int), .slice A (qn * qn) c, .slice B (qn * qn) d]
  p4 : i = 4 → ∃ A l c, v = .slice A l c
theorem PqPhi_stable {qn nE D : Nat} {Z : List Int} (i : Nat) (v : Value) (w w' : World) (h : PqPhi qn nE D Z i v w) (hb : Below w.heap.size w w') : PqPhi qn nE D Z i v w' := ⟨h.p2, fun e => (h.p4 e).next hb⟩
theorem PqSh_of {qn nE D : Nat} {Z : List Int} (i : Nat) (v : Value) (w : World) (h : PqPhi qn nE D Z i v w) : PqSh qn nE i v := ⟨h.p2, fun e => by obtain ⟨A, l, c, h1, _⟩ := h.p4 e; exact ⟨A, l, c, h1⟩⟩
def pq0 (qn nE i : Nat) : Value := if i = 2 then .agg #[.int .i64 (qn : Int), .int .i64 (nE : Int), .slice none (qn * qn) 0, .slice none (qn * qn) 0] else .slice none 0 0
theorem PqSh_zero {qn nE : Nat} (i : Nat) : PqSh qn nE i (pq0 qn nE i) := ⟨fun e => by subst e; exact ⟨none, 0, none, 0, rfl⟩, fun e => by subst e; exact ⟨none, 0, 0, rfl⟩⟩

end Go.Proofs.Ytdhjcgbaaghnoaa
