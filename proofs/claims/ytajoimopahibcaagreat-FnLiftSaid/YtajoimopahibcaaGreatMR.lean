/- Texts of this seat in one: PH PI PJ PK PL PM PN PQ. -/
import Derived.Test.YtajoimopahibcaaGreatMQ
import Derived.Maps.OwnSet
import Derived.Test.YtajoimopahibcaaGreatMN
import Derived.Test.YtajoimopahibcaaGreatMO
import Derived.Test.YtajoimopahibcaaGreatMJ

/- An append of one element of several cells, inside a region that draws its order. -/
namespace Go.Proofs.YtajoimopahibcaaGreat
open Go.RowKit Go.Shelf
set_option maxRecDepth 100000

/-- What stores into a row of cells leave. -/
def setAll (cur : Array Value) : Nat → List Value → Array Value
  | _, [] => cur
  | o, v :: r => setAll (cur.setIfInBounds o v) (o + 1) r
theorem setAll_size : ∀ (vs : List Value) (cur : Array Value) (o : Nat), (setAll cur o vs).size = cur.size
  | [], _, _ => rfl
  | v :: r, cur, o => by rw [setAll, setAll_size r]; simp
theorem setAll_out : ∀ (vs : List Value) (cur : Array Value) (o j : Nat), (j < o ∨ o + vs.length ≤ j) → (setAll cur o vs)[j]? = cur[j]?
  | [], _, _, _, _ => rfl
  | v :: r, cur, o, j, h => by
    rw [setAll, setAll_out r _ (o + 1) j (by simp at h; omega), Array.getElem?_setIfInBounds, if_neg (by simp at h; omega)]
theorem setAll_in : ∀ (vs : List Value) (cur : Array Value) (o j : Nat), j < vs.length → o + j < cur.size → (setAll cur o vs)[o + j]? = vs[j]?
  | v :: r, cur, o, 0, _, hs => by
    rw [setAll, setAll_out r _ (o + 1) _ (by omega), Array.getElem?_setIfInBounds]
    simp at hs ⊢
    exact hs
  | v :: r, cur, o, j + 1, h, hs => by
    have := setAll_in r (cur.setIfInBounds o v) (o + 1) j (by simpa using h) (by simp; omega)
    rw [setAll, show o + (j + 1) = o + 1 + j by omega, this]
    simp
theorem Blk.setAll_ {g : Nat} {t : TypeId} : ∀ (vs : List Value) {w : World} {cur : Array Value} (o : Nat), Blk w g t cur → Blk (w.setCells g o vs) g t (setAll cur o vs)
  | [], _, _, _, h => h
  | v :: r, _, _, o, h => Blk.setAll_ r (o + 1) (h.set_ o v)

section
variable {D size bytes n b : Nat} {e t ty : TypeId} {i0 : TypeInfo} {z : Value} {v : Value} {x : World} {xs news : List Value}
theorem own_kept0 {u : Value} {w w' : World} {k : Nat} {ys : List Value} (h : w.ownsRow D e size u k ys) (hg : w.grownBy w' none) : w'.ownsRow D e size u k ys := World.ownsRow.kept h hg (by cases hv : u.ownBlock <;> simp)
/-- What has been appended stays, whichever of the values that own it is meant. -/
theorem run_appG (ht : Tryz.prog.underlying t = some (.slice e)) (hi : Tryz.prog.info? e = some i0) (hz0 : i0.zero = some z) (hz1 : i0.size = size) (hz2 : i0.bytes = bytes) (hz3 : z.cells.size = size) (hz4 : 0 < size)
    (hv : x.ownsRow D e size v n xs) (hl : news.length = size) (hb : ∀ (j : Nat) (u : Value), news[j]? = some u → x.cell? ⟨b, j, none⟩ = some u) (h1c : ∀ u ∈ news, u.oneCell' = true) (hk : n ≤ 1000) (hby : (n + 1) * bytes ≤ 140737488355328) (hD : D ≤ x.heap.size) :
    ∃ v' x', (Builtin.append_ #[t, t] ty #[v, .slice (some ⟨b, 0, none⟩) 1 1]).run Tryz.prog x = .ok v' x' ∧ x'.ownsRow D e size v' (n + 1) (xs ++ news) ∧ x.grownBy x' v.ownBlock ∧ (v'.ownBlock = v.ownBlock ∨ v'.ownBlock = some x.heap.size) ∧
      (∀ u, x.ownsRow D e size u (n + 1) (xs ++ news) → x'.ownsRow D e size u (n + 1) (xs ++ news)) ∧ ∀ u, x.ownsRow D e size u n xs → x'.ownsRow D e size u n xs := by
  have hsrc : ∀ (j : Nat) (u : Value), news[j]? = some u → x.cell? ((⟨b, 0, none⟩ : Addr).add j) = some u := fun j u hu => by
    have := addr_add b 0 j
    rw [Nat.zero_add] at this
    rw [this]
    exact hb j u hu
  obtain ⟨v', x', hrun, h1, h2, _, h4⟩ := run_append_own_at (P := Tryz.prog) x D t ty e i0 z size bytes ht hi hz0 hz1 hz2 hz3 hz4 v n xs hv ⟨b, 0, none⟩ 1 1 news (by omega) hsrc h1c (by unfold maxLen; omega) hby hD
  have hlx : xs.length = n * size := hv.1
  have main : ∀ (k' : Nat) (ys : List Value) (u : Value), (k' = n ∧ ys = xs ∨ k' = n + 1 ∧ ys = xs ++ news) → x.ownsRow D e size u k' ys → x'.ownsRow D e size u k' ys := fun k' ys u hk' hu => by
    rcases hv.2 with ⟨rfl, h0⟩ | ⟨g, cap, cur, rfl, hg, hblk, hc, hcm, hs, hta⟩
    · exact own_kept0 hu h2
    · by_cases hr : n + 1 ≤ cap
      · have hbl : Blk x g e cur := hblk
        have hsz : (n + 1) * size ≤ cur.size := by rw [hs]; exact Nat.mul_le_mul_right _ hr
        rw [Nat.add_mul, Nat.one_mul] at hsz
        have hrun2 := run_append_room_cells (P := Tryz.prog) x t ty e i0 ht hi g 0 n cap ⟨b, 0, none⟩ 1 1 news (by rw [hz1]; omega) hsrc h1c hr
          (fun j hj => by rw [hz1, Nat.zero_add, hbl.cell, Array.getElem?_eq_getElem (by omega)]; rfl) (fun j hj => by rw [hz1, Nat.zero_add]; exact hbl.frozen _)
        rw [hrun] at hrun2
        injection hrun2 with e1 e2
        rw [hz1, Nat.zero_add] at e2
        subst e2
        by_cases hug : u.ownBlock = some g
        · rcases hu.2 with ⟨e0, _⟩ | ⟨g2, cap2, cur2, rfl, hg2, hblk2, hc2, hcm2, hs2, ht2⟩
          · subst e0; cases hug
          · have e3 : g2 = g := by simpa [Value.ownBlock] using hug
            subst e3
            have e4 : cur2 = cur := by
              have := hblk2.symm.trans hblk
              simp only [Option.some.injEq, Obj.cells.injEq, and_true] at this
              exact this
            subst e4
            refine ⟨hu.1, .inr ⟨g2, cap2, _, rfl, hg2, hbl.setAll_ news (n * size), hc2, hcm2, by rw [setAll_size]; exact hs2, ?_⟩⟩
            rw [← ht2]
            refine List.ext_getElem? fun j => ?_
            rw [List.getElem?_take, List.getElem?_take]
            by_cases hj : j < k' * size
            · rw [if_pos hj, if_pos hj, Array.getElem?_toList, Array.getElem?_toList]
              by_cases hjn : j < n * size
              · exact setAll_out _ _ _ _ (.inl hjn)
              · rcases hk' with ⟨rfl, _⟩ | ⟨rfl, rfl⟩
                · exact absurd hj hjn
                · rw [Nat.add_mul, Nat.one_mul] at hj
                  obtain ⟨q, rfl⟩ : ∃ q, j = n * size + q := ⟨j - n * size, by omega⟩
                  rw [setAll_in _ _ _ _ (by omega) (by omega)]
                  have e5 : cur2.toList[n * size + q]? = (xs ++ news)[n * size + q]? := by rw [← ht2, List.getElem?_take, if_pos (by rw [Nat.add_mul, Nat.one_mul]; omega)]
                  rw [← Array.getElem?_toList, e5, List.getElem?_append_right (by omega), hlx]
                  congr 1
                  omega
            · rw [if_neg hj, if_neg hj]
        · exact World.ownsRow.kept hu h2 (.inr hug)
      · obtain ⟨v2, x2, hrun2, _, hg2⟩ := run_append_arg_grows (P := Tryz.prog) x t ty e i0 z size bytes ht hi hz0 hz1 hz2 hz3 hz4 ⟨g, 0, none⟩ n cap xs (by omega) (fun j u hu => by
            have hj : j < n * size := by have := (List.getElem?_eq_some_iff.1 hu).1; omega
            have hbl : Blk x g e cur := hblk
            have e0 : (⟨g, 0, none⟩ : Addr).add j = ⟨g, j, none⟩ := by have := addr_add g 0 j; rwa [Nat.zero_add] at this
            have e5 : cur.toList[j]? = xs[j]? := by rw [← hta, List.getElem?_take, if_pos hj]
            rw [e0, hbl.cell, ← Array.getElem?_toList, e5, hu]) ⟨b, 0, none⟩ 1 1 news (by omega) hsrc (by omega) (by unfold maxLen; omega) hby
        rw [hrun] at hrun2
        injection hrun2 with e1 e2
        subst e2
        exact own_kept0 hu hg2
  exact ⟨v', x', hrun, h1, h2, h4, fun u hu => main _ _ u (.inr ⟨rfl, rfl⟩) hu, fun u hu => main _ _ u (.inl ⟨rfl, rfl⟩) hu⟩
end

/-! ### what a region asks of such an append: a slice of one element (maker a) and the append (maker b) -/
def GpR (row : Option Nat) (D : Nat) (e : TypeId) (size n : Nat) (xs news : List Value) (w w' : World) : Prop :=
  w.grownBy w' row ∧ (∀ u, w.ownsRow D e size u (n + 1) (xs ++ news) → w'.ownsRow D e size u (n + 1) (xs ++ news)) ∧ ∀ u, w.ownsRow D e size u n xs → w'.ownsRow D e size u n xs
section
variable {row : Option Nat} {D D0 size n : Nat} {e : TypeId} {xs news : List Value} {ia ib : Nat}
theorem GpR.refl (w : World) : GpR row D e size n xs news w w := ⟨grownBy_refl w, fun _ h => h, fun _ h => h⟩
theorem GpR.trans (a b c : World) (h : GpR row D e size n xs news a b) (h' : GpR row D e size n xs news b c) : GpR row D e size n xs news a c := ⟨grownBy_trans h.1 h'.1, fun v hv => h'.2.1 v (h.2.1 v hv), fun v hv => h'.2.2 v (h.2.2 v hv)⟩
theorem GpR.of_below {w w' : World} (hb : Below w.heap.size w w') : GpR row D e size n xs news w w' := ⟨grownBy_below hb, fun _ h => own_nextK h hb, fun _ h => own_nextK h hb⟩
theorem GpR.drew (w : World) : GpR row D e size n xs news w w.drew := GpR.of_below (Below.refl _ _).drew
structure GpPhi (ia ib : Nat) (row : Option Nat) (D D0 : Nat) (e : TypeId) (size n : Nat) (xs news : List Value) (i : Nat) (v : Value) (w : World) : Prop where
  pa : i = ia → ∃ g, v = .slice (some ⟨g, 0, none⟩) 1 1 ∧ some g ≠ row ∧ g < w.heap.size ∧ ∀ (j : Nat) (u : Value), news[j]? = some u → w.cell? ⟨g, j, none⟩ = some u
  pb : i = ib → w.ownsRow D e size v (n + 1) (xs ++ news) ∧ (v.ownBlock = row ∨ ∃ g, v.ownBlock = some g ∧ D0 ≤ g)
structure GpSh (ia ib n : Nat) (i : Nat) (v : Value) : Prop where
  pa : i = ia → ∃ g, v = .slice (some ⟨g, 0, none⟩) 1 1
  pb : i = ib → ∃ g q, v = .slice (some ⟨g, 0, none⟩) (n + 1) q
theorem GpPhi_stable (i : Nat) (v : Value) (w w' : World) (h : GpPhi ia ib row D D0 e size n xs news i v w) (hr : GpR row D e size n xs news w w') : GpPhi ia ib row D D0 e size n xs news i v w' :=
  ⟨fun e => by
    obtain ⟨g, h1, h2, h3, h4⟩ := h.pa e
    exact ⟨g, h1, h2, Nat.lt_of_lt_of_le h3 hr.1.size, fun j u hu => (World.cell?_of_block (a := ⟨g, j, none⟩) (hr.1.block g h3 h2)).trans (h4 j u hu)⟩, fun e => ⟨hr.2.1 v (h.pb e).1, (h.pb e).2⟩⟩
theorem GpSh_of (i : Nat) (v : Value) (w : World) (h : GpPhi ia ib row D D0 e size n xs news i v w) : GpSh ia ib n i v :=
  ⟨fun e => by obtain ⟨g, h1, _⟩ := h.pa e; exact ⟨g, h1⟩, fun e => by
    rcases (h.pb e).1.2 with ⟨_, h1⟩ | ⟨g, cap, cur, h1, _⟩
    · omega
    · exact ⟨_, _, h1⟩⟩
end
def gp0 (ia n i : Nat) : Value := if i = ia then .slice (some ⟨0, 0, none⟩) 1 1 else .slice (some ⟨0, 0, none⟩) (n + 1) 0
theorem GpSh_zero {ia ib n : Nat} (h : ia ≠ ib) (i : Nat) : GpSh ia ib n i (gp0 ia n i) := ⟨fun e => by subst e; exact ⟨0, by simp [gp0]⟩, fun e => by subst e; exact ⟨0, 0, by simp [gp0, Ne.symm h]⟩⟩
instance (row : Option Nat) (D : Nat) (e : TypeId) (size n : Nat) (xs news : List Value) (V : World) : Nonempty (ExtR (GpR row D e size n xs news) V) := ⟨⟨V, GpR.refl V⟩⟩

theorem makes_appG {row : Option Nat} {D D0 size bytes n b : Nat} {e t : TypeId} {i0 : TypeInfo} {z : Value} {xs news : List Value} {o : Oper} {a : Act} (s y : Operand) (hop : o.op = .call { callee := .builtin .append, args := #[s, y], argTypes := #[t, t] }) (v : Value) (x : World)
    (ht : Tryz.prog.underlying t = some (.slice e)) (hi : Tryz.prog.info? e = some i0) (hz0 : i0.zero = some z) (hz1 : i0.size = size) (hz2 : i0.bytes = bytes) (hz3 : z.cells.size = size) (hz4 : 0 < size)
    (hs : a.eval s = v) (hx : a.eval y = .slice (some ⟨b, 0, none⟩) 1 1) (hv : x.ownsRow D e size v n xs) (hr : v.ownBlock = row) (hl : news.length = size) (hb : ∀ (j : Nat) (u : Value), news[j]? = some u → x.cell? ⟨b, j, none⟩ = some u) (h1c : ∀ u ∈ news, u.oneCell' = true)
    (hk : n ≤ 1000) (hby : (n + 1) * bytes ≤ 140737488355328) (hD : D ≤ x.heap.size) (hD0 : D0 ≤ x.heap.size) :
    makesAtR Tryz.prog (GpR row D e size n xs news) (fun _ => True) o a x fun u x' => x'.ownsRow D e size u (n + 1) (xs ++ news) ∧ (u.ownBlock = row ∨ ∃ g, u.ownBlock = some g ∧ D0 ≤ g) := by
  obtain ⟨v', x', hrun, h1, h2, h3, h4, h5⟩ := run_appG (ty := o.type) ht hi hz0 hz1 hz2 hz3 hz4 hv hl hb h1c hk hby hD
  unfold makesAtR execOp
  simp only [hop, resolve, invoke, builtin, Sem.run_bind, Sem.run_pure, Result.andThen_ok, List.map_toArray, List.map_cons, List.map_nil, hs, hx, hrun, makesUponR]
  rw [hr] at h2 h3
  exact ⟨⟨h2, h4, h5⟩, trivial, h1, h3.imp id fun h => ⟨_, h, hD0⟩⟩

end Go.Proofs.YtajoimopahibcaaGreat



/- A map from elements to classes: what it holds, element by element. -/
namespace Go.Proofs.YtajoimopahibcaaGreat
open Go.RowKit Go.Shelf
set_option maxRecDepth 100000

def clsD (a b : Int) : DataW Unit := .agg [.lit (.int .i64 a), .lit (.int .i64 b)]
/-- How a class in a map reads. -/
def clsE (v : Value) : Option (DataW Unit × List MemPlace) := match v with
  | .agg cs => match cs.toList with
    | [.int .i64 a, .int .i64 b] => some (clsD a b, [])
    | _ => none
  | _ => none
theorem clsE_mk (a b : Int) : clsE (.agg #[.int .i64 a, .int .i64 b]) = some (clsD a b, []) := rfl
theorem clsE_inv {v : Value} {a b : Int} {ps : List MemPlace} (h : clsE v = some (clsD a b, ps)) : v = .agg #[.int .i64 a, .int .i64 b] := by
  unfold clsE at h
  split at h
  · rename_i cs
    split at h
    · rename_i a' b' e
      simp only [clsD, Option.some.injEq, Prod.mk.injEq, DataW.agg.injEq, List.cons.injEq, DataW.lit.injEq, Lit.int.injEq, true_and, and_true] at h
      obtain ⟨⟨rfl, rfl⟩, _⟩ := h
      congr 1
      exact Array.ext' (by simpa using e)
    · cases h
  · cases h

theorem zero_cls (w : World) : (zeroValue 89).run Tryz.prog w = .ok (.agg #[.int .i64 0, .int .i64 0]) w := by kernel_rfl
theorem law_cls : Go.Maps.Keyed Tryz.prog 3 := Go.Maps.int_keyed Tryz.underlying3
theorem wf_nat {x : Nat} (h : x ≤ 1000000) : (Lit.int .i64 (x : Int)).wf = true := WalkArith.wf_i64 (by omega)
theorem key_nat {x : Nat} (h : x ≤ 1000000) : keyOf Tryz.prog 3 (.int .i64 (x : Int)) = some (.int .i64 (x : Int)) := Go.Maps.keyOf_int_mk Tryz.underlying3 (wf_nat h)
theorem lit_nat {x : Nat} (h : x ≤ 1000000) : WideAt.IsKeyLit (.int .i64 (x : Int)) := law_cls.key (key_nat h)

/-- Block b is a map of at most k entries that holds these classes. -/
def MapC (k : Nat) (w : World) (b : Nat) (f : Nat → Option (Nat × Nat)) : Prop :=
  ∃ n D, n ≤ k ∧ w.ownsMap Tryz.prog 3 clsE b n D ∧ ∀ x : Nat, x ≤ 1000000 → (f x = none → Maps.has D (.int .i64 (x : Int)) = false) ∧ ∀ i l, f x = some (i, l) → Maps.has D (.int .i64 (x : Int)) = true ∧ ∀ z, D.atKey (.int .i64 (x : Int)) z = clsD i l
section
variable {k b : Nat} {w w' : World} {f : Nat → Option (Nat × Nat)}
theorem MapC.lt (h : MapC k w b f) : b < w.heap.size := by obtain ⟨n, D, _, h1, _⟩ := h; exact h1.lt
theorem MapC.kept {row : Option Nat} (h : MapC k w b f) (hg : w.grownBy w' row) (hne : some b ≠ row) : MapC k w' b f := by
  obtain ⟨n, D, h0, h1, h2⟩ := h
  exact ⟨n, D, h0, h1.kept hg hne, h2⟩
theorem MapC.next (h : MapC k w b f) (hb : Below w.heap.size w w') : MapC k w' b f := h.kept (row := none) (grownBy_below hb) (by simp)
theorem MapC.heap (h : MapC k w b f) (hh : w'.heap[b]? = w.heap[b]?) : MapC k w' b f := by
  obtain ⟨n, D, h0, ⟨es, clock, hb, rest⟩, h2⟩ := h
  exact ⟨n, D, h0, ⟨es, clock, hh.trans hb, rest⟩, h2⟩
theorem MapC.ne_blk {t : TypeId} {cs : Array Value} (h : MapC k w b f) (hb : Blk w b t cs) : False := by
  obtain ⟨n, D, _, ⟨es, clock, h1, _⟩, _⟩ := h
  unfold Blk at hb
  rw [h1] at hb
  cases hb
theorem MapC.ne_row {D n size : Nat} {e : TypeId} {v : Value} {xs : List Value} (h : MapC k w b f) (hv : w.ownsRow D e size v n xs) (he : some b = v.ownBlock) : False := by
  rcases hv.2 with ⟨rfl, _⟩ | ⟨g, cap, cur, rfl, _, hh, _⟩
  · cases he
  · simp only [Value.ownBlock, Option.some.injEq] at he
    subst he
    exact h.ne_blk (t := e) (cs := cur) hh
theorem MapC.congr {g : Nat → Option (Nat × Nat)} (h : MapC k w b f) (hfg : ∀ x, x ≤ 1000000 → f x = g x) : MapC k w b g := by
  obtain ⟨n, D, h0, h1, h2⟩ := h
  exact ⟨n, D, h0, h1, fun x hx => by rw [← hfg x hx]; exact h2 x hx⟩
theorem MapC.more (h : MapC k w b f) {k' : Nat} (hk : k ≤ k') : MapC k' w b f := by
  obtain ⟨n, D, h0, h1⟩ := h
  exact ⟨n, D, Nat.le_trans h0 hk, h1⟩
theorem MapC.made (w : World) : MapC 0 (w.alloc (.map #[] 0)) w.heap.size (fun _ => none) :=
  ⟨0, .map [], Nat.le_refl _, World.ownsMap_made _ _ _ _, fun _ _ => ⟨fun _ => rfl, fun _ _ h => by cases h⟩⟩
theorem MapC.look_no (h : MapC k w b f) {x : Nat} (hx : x ≤ 1000000) (hf : f x = none) : (Instr.lookup 80 (.map (some b)) (.int .i64 (x : Int)) true).run Tryz.prog w = .ok (.tuple #[.agg #[.int .i64 0, .int .i64 0], .bool false]) w := by
  obtain ⟨n, D, _, h1, h2⟩ := h
  obtain ⟨v, ps, hr, hv⟩ := h1.look_ok law_cls Tryz.underlying80 (zero_cls w) (clsE_mk 0 0) (key_nat hx)
  have hn := (h2 x hx).1 hf
  rw [Go.Maps.atKey_of_not_has hn] at hv
  rw [hn, clsE_inv hv] at hr
  exact hr
theorem MapC.look_yes (h : MapC k w b f) {x i l : Nat} (hx : x ≤ 1000000) (hf : f x = some (i, l)) : (Instr.lookup 80 (.map (some b)) (.int .i64 (x : Int)) true).run Tryz.prog w = .ok (.tuple #[.agg #[.int .i64 (i : Int), .int .i64 (l : Int)], .bool true]) w := by
  obtain ⟨n, D, _, h1, h2⟩ := h
  obtain ⟨v, ps, hr, hv⟩ := h1.look_ok law_cls Tryz.underlying80 (zero_cls w) (clsE_mk 0 0) (key_nat hx)
  obtain ⟨hn, ha⟩ := (h2 x hx).2 i l hf
  rw [ha] at hv
  rw [hn, clsE_inv hv] at hr
  exact hr
theorem MapC.get (h : MapC k w b f) {x i l : Nat} (hx : x ≤ 1000000) (hf : f x = some (i, l)) : (Instr.lookup 80 (.map (some b)) (.int .i64 (x : Int)) false).run Tryz.prog w = .ok (.agg #[.int .i64 (i : Int), .int .i64 (l : Int)]) w := by
  obtain ⟨n, D, _, h1, h2⟩ := h
  obtain ⟨v, ps, hr, hv⟩ := h1.lookup law_cls Tryz.underlying80 (zero_cls w) (clsE_mk 0 0) (key_nat hx)
  rw [((h2 x hx).2 i l hf).2] at hv
  rw [clsE_inv hv] at hr
  exact hr
theorem MapC.put (h : MapC k w b f) {x i l : Nat} (hx : x ≤ 1000000) (hk : k ≤ 1000000) : ∃ w', (Instr.mapUpdate 80 (.map (some b)) (.int .i64 (x : Int)) (.agg #[.int .i64 (i : Int), .int .i64 (l : Int)])).run Tryz.prog w = .ok () w' ∧ MapC (k + 1) w' b (fun y => if y = x then some (i, l) else f y) ∧ w.grownBy w' (some b) := by
  obtain ⟨n, D, h0, h1, h2⟩ := h
  obtain ⟨w', hr, h3, h4⟩ := h1.update law_cls Tryz.underlying80 (by unfold maxLen; omega) (key_nat hx) (clsE_mk i l)
  refine ⟨w', hr, ⟨n + 1, _, by omega, h3, fun y hy => ?_⟩, h4⟩
  by_cases hyx : y = x
  · subst hyx
    have e0 : (fun z => if z = y then some (i, l) else f z) y = some (i, l) := if_pos rfl
    refine ⟨fun h => (by rw [e0] at h; cases h), fun i' l' h => ?_⟩
    rw [e0] at h
    simp only [Option.some.injEq, Prod.mk.injEq] at h
    obtain ⟨rfl, rfl⟩ := h
    exact ⟨Go.Maps.has_put_same h1.isMap (lit_nat hx) _, fun z => Go.Maps.atKey_put_same h1.isMap (lit_nat hx) _ z⟩
  · have hne : Lit.int .i64 (y : Int) ≠ Lit.int .i64 (x : Int) := fun e => by
      simp only [Lit.int.injEq, true_and] at e
      omega
    have e0 : (fun z => if z = x then some (i, l) else f z) y = f y := if_neg hyx
    rw [e0]
    refine ⟨fun h => ?_, fun i' l' h => ?_⟩
    · rw [Go.Maps.has_put_other hne]; exact (h2 y hy).1 h
    · obtain ⟨h5, h6⟩ := (h2 y hy).2 i' l' h
      exact ⟨by rw [Go.Maps.has_put_other hne]; exact h5, fun z => by rw [Go.Maps.atKey_put_other hne]; exact h6 z⟩
end

end Go.Proofs.YtajoimopahibcaaGreat



/- addClass of the program: one more class. -/
namespace Go.Proofs.YtajoimopahibcaaGreat
open Go.RowKit Go.Shelf
set_option maxRecDepth 100000
attribute [local go_sem] Oper.semAt_some

/-- The classes as a row of their cells. -/
def clsV (l : List Nat) : List Value := (List.range l.length).flatMap fun (i : Nat) => [.int .i64 (i : Int), .int .i64 (l.getD i 0 : Int)]
theorem cls_info : (Tryz.prog.info? 89).map (fun i => (i.zero, i.size, i.bytes)) = some (some (.agg #[.int .i64 0, .int .i64 0]), 2, 16) := by kernel_rfl
theorem clsV_len {l : List Nat} : (clsV l).length = l.length * 2 := by
  unfold clsV
  rw [List.length_flatMap]
  have : ∀ n : Nat, ((List.range n).map fun (_ : Nat) => 2).sum = n * 2 := fun n => by
    induction n with
    | zero => rfl
    | succ n ih => rw [List.range_succ, List.map_append, List.sum_append, ih]; simp; omega
  exact this l.length
theorem clsV_snoc {l : List Nat} {a : Nat} : clsV (l ++ [a]) = clsV l ++ [.int .i64 (l.length : Int), .int .i64 (a : Int)] := by
  unfold clsV
  rw [List.length_append, List.length_singleton, List.range_succ, List.flatMap_append]
  have h1 : (List.range l.length).flatMap (fun (i : Nat) => [Value.int .i64 (i : Int), Value.int .i64 ((l ++ [a]).getD i 0 : Int)]) = (List.range l.length).flatMap (fun (i : Nat) => [Value.int .i64 (i : Int), Value.int .i64 (l.getD i 0 : Int)]) := by
    rw [List.flatMap_def, List.flatMap_def]
    congr 1
    refine List.map_congr_left fun i hi => ?_
    have hi' : i < l.length := by simpa using hi
    simp [List.getElem?_append_left hi']
  rw [h1]
  simp
/-- The cells of a quotient's box. -/
def quoC (m e b1 o1 la ca b2 o2 lb cb : Nat) (vC : Value) (bm : Nat) : Array Value := #[.int .i64 m, .int .i64 e, .slice (some ⟨b1, o1, none⟩) la ca, .slice (some ⟨b2, o2, none⟩) lb cb, vC, .map (some bm)]

theorem ownFrom_map {β : Type} {B bm : Nat} {kf : β → Nat} {ff : β → Nat → Option (Nat × Nat)} (h : bm < B) : OwnFrom B (fun s W => MapC (kf s) W bm (ff s)) := fun s W W' row hs hg hr => hs.kept hg (fun e => by
  have := (hr bm e.symm).1
  omega)
theorem ownFrom_row {β : Type} {B D size n : Nat} {e : TypeId} {v : Value} {xs : List Value} : OwnFrom B (fun (_ : β) W => W.ownsRow D e size v n xs) := fun s W W' row hs hg hr => World.ownsRow.kept hs hg (by
  rcases hs.2 with ⟨rfl, _⟩ | ⟨g, cap, cur, rfl, _, hh, _⟩
  · exact .inl rfl
  · refine .inr fun e' => ?_
    obtain ⟨_, o, ho, hc⟩ := hr g (by rw [← e']; rfl)
    rw [hh] at ho
    cases ho
    cases hc)
theorem wpList_update_run {P : Program} (w w' : World) {ops : Array Oper} {rest : List Oper} {o : Oper} {a : Act} {Q : Exit → Act → World → Prop}
    (hg : o.guard = none) (m x v : Operand) (t : TypeId) (hop : o.op = Op.mapUpdate t m x v) (mv kv vv : Value) (hm : a.eval m = mv) (hx : a.eval x = kv) (hv : a.eval v = vv) (hrun : (Instr.mapUpdate t mv kv vv).run P w = .ok () w')
    (h : wpList P ops Q rest (a.put o.dst undef) w') : wpList P ops Q (o :: rest) a w := by
  refine wpList_plain hg fun K' hK' => ?_
  unfold Oper.wp
  simp [execOp, hop, hm, hx, hv, hrun, Result.andThen]
  exact hK' _ _ h

theorem map_snoc {T : Nat → Nat} {v : Nat × Nat} {f : Nat → Option (Nat × Nat)} {m y : Nat} {pre : List (Fin m)} {x : Fin m} : (if y = T x.1 then some v else if decide (y ∈ (finN pre).map fun b => T b) = true then some v else f y) = if decide (y ∈ (finN (pre ++ [x])).map fun b => T b) = true then some v else f y := by
  have e : (finN (pre ++ [x])).map (fun b => T b) = (finN pre).map (fun b => T b) ++ [T x.1] := by simp [finN]
  rw [e]
  by_cases h : y = T x.1
  · rw [if_pos h, if_pos (by simp [h])]
  · rw [if_neg h]
    by_cases h2 : y ∈ (finN pre).map fun b => T b
    · rw [if_pos (by rw [decide_eq_true_iff]; exact h2), if_pos (by rw [decide_eq_true_iff]; exact List.mem_append_left _ h2)]
    · rw [if_neg (by rw [decide_eq_true_iff]; exact h2), if_neg (by rw [decide_eq_true_iff, List.mem_append, List.mem_singleton]; exact fun h3 => h3.elim h2 h)]
theorem blk_putObj {V : World} {g l : Nat} {t : TypeId} {cs : Array Value} {o o' : Obj} (h : Blk V g t cs) (hl : V.heap[l]? = some o) (ho : o.isCells = false) : Blk (V.putObj l o') g t cs :=
  (ownFrom_blk 0 g t (fun (_ : Unit) => cs)).putObj o' (s := ()) h (Nat.zero_le _) hl ho

def acMk (i : Nat) : Bool := i == 7
structure AcPhi (D : Nat) (i : Nat) (v : Value) (w : World) : Prop where
  p7 : i = 7 → ∃ g, v = .pointer (some ⟨g, 0, none⟩) ∧ D ≤ g ∧ Blk w g 89 #[.int .i64 0, .int .i64 0]
structure AcSh (i : Nat) (v : Value) : Prop where
  p7 : i = 7 → ∃ g, v = .pointer (some ⟨g, 0, none⟩)
theorem AcPhi_stable {D : Nat} (i : Nat) (v : Value) (w w' : World) (h : AcPhi D i v w) (hb : Below w.heap.size w w') : AcPhi D i v w' := ⟨fun e => by obtain ⟨g, h1, h2, h3⟩ := h.p7 e; exact ⟨g, h1, h2, h3.next hb⟩⟩
theorem AcSh_of {D : Nat} (i : Nat) (v : Value) (w : World) (h : AcPhi D i v w) : AcSh i v := ⟨fun e => by obtain ⟨g, h1, _⟩ := h.p7 e; exact ⟨g, h1⟩⟩
theorem AcSh_zero (i : Nat) : AcSh i (.pointer (some ⟨0, 0, none⟩)) := ⟨fun _ => ⟨0, rfl⟩⟩

set_option maxHeartbeats 8000000 in
theorem addClass_any (bq bm k kk D : Nat) (vC : Value) (l : List Nat) (f : Nat → Option (Nat × Nat)) (p : Nat → Bool) (m e b1 o1 la ca b2 o2 lb cb : Nat) (S P : Nat → Nat) (w00 : World) (hr : RingAt w00 m e b1 o1 la ca b2 o2 lb cb S P) (w : World) (hw0 : Below w00.heap.size w00 w) (hwD : w00.heap.size ≤ D) (hk : k < m) (hSm : ∀ a b, a < m → b < m → S (a * m + b) < m) (_hp : ∀ i, p i = true → i < m) (hq : Blk w bq 82 (quoC m e b1 o1 la ca b2 o2 lb cb vC bm)) (hC : w.ownsRow D 89 2 vC l.length (clsV l)) (hM : MapC kk w bm f)
    (hl : l.length ≤ 16) (hkk : kk ≤ 300) (hD : D ≤ bm) (hDq : D ≤ bq) (hDw : D ≤ w.heap.size) :
    Calls Tryz.prog 108 #[.pointer (some ⟨bq, 0, none⟩), .int .i64 k, .agg (setP p)] w fun e' w' => (∃ v, e' = .returned v) ∧ Below D w w' ∧ ∃ vC', Blk w' bq 82 (quoC m e b1 o1 la ca b2 o2 lb cb vC' bm) ∧ w'.ownsRow D 89 2 vC' (l ++ [k]).length (clsV (l ++ [k])) ∧ MapC (kk + m) w' bm (fun x => if decide (x ∈ (finN (selTo m p m)).map fun b => S (k * m + b)) = true then some (l.length, k) else f x) := by
  obtain ⟨AC, cC, rfl⟩ : ∃ A c, vC = .slice A l.length c := by
    rcases hC.2 with ⟨h1, h2⟩ | ⟨g, cap, cur, h1, _⟩
    · exact ⟨none, 0, by rw [h1, h2]⟩
    · exact ⟨_, _, h1⟩
  obtain ⟨s, hs⟩ : ∃ s, w.heap.size = s := ⟨_, rfl⟩
  obtain ⟨W, hW⟩ : ∃ W, ((w.alloc (.cells #[.pointer (some ⟨bq, 0, none⟩)] 139)).alloc (.cells #[.int .i64 k] 3)).alloc (.cells (setP p) 50) = W := ⟨_, rfl⟩
  have zW : W.heap.size = s + 3 := by subst hW; simp [hs]
  have b0 : Below s w W := by
    subst hW hs; exact (((Below.refl _ _).alloc (Nat.le_refl _) _).alloc (by simp) _).alloc (by simp; omega) _
  have k0 : Blk W s 139 #[.pointer (some ⟨bq, 0, none⟩)] := by
    subst hW hs; exact ((Blk.new w _ _).alloc _).alloc _
  have k1 : Blk W (s + 1) 3 #[.int .i64 k] := by
    subst hW hs
    have := (Blk.new (w.alloc (.cells #[.pointer (some ⟨bq, 0, none⟩)] 139)) 3 #[.int .i64 k]).alloc (.cells (setP p) 50)
    rw [World.size_alloc] at this
    exact this
  have k2 : Blk W (s + 2) 50 (setP p) := by
    subst hW hs
    have := Blk.new ((w.alloc (.cells #[.pointer (some ⟨bq, 0, none⟩)] 139)).alloc (.cells #[.int .i64 k] 3)) 50 (setP p)
    rw [World.size_alloc, World.size_alloc] at this
    exact this
  have HW := Lib.hid hW
  clear hW
  have hq0 := hq.lt
  have hm0 := hM.lt
  have kq := hq.next (hs ▸ b0)
  have q4 := kq.cell 4
  have cp := k0.cell 0
  have ck := k1.cell 0
  simp [quoC] at q4 cp ck
  refine (callsIn_wide (n := 6)).1 ?_
  refine callsIn_of_wp_marks Tryz.func108 rfl trivial ?_ rfl
  simp only [Tryz.ntmps108, List.size_toArray, List.length_cons, List.length_nil, Nat.reduceAdd, Nat.reduceSub, Array.replicate_succ, Array.replicate_zero, List.push_toArray, List.append_toArray, List.nil_append, List.cons_append]
  gi_wp2_with (fail)
  rw [HW.out]
  refine wpIn_wide.2 ?_
  refine wp_region_makersE 8 acMk (AcPhi W.heap.size) AcSh (fun _ => .pointer (some ⟨0, 0, none⟩)) probe (by kernel_rfl) (by kernel_rfl) AcPhi_stable (fun i v x _ => AcSh_of i v x) (fun i _ => AcSh_zero i) ?_
  intro V hV vs hvs
  obtain ⟨Bc, e7⟩ := (hvs 7 rfl).p7 rfl
  have cW : ∃ x, extC V x := ⟨V, extC_of (Below.refl _ _)⟩
  have r4 := (kq.next hV).cell 4
  have rp := (k0.next hV).cell 0
  have rk := (k1.next hV).cell 0
  simp [quoC] at r4 rp rk
  simp only [List.take_succ_cons, List.take_zero, List.drop_succ_cons, List.drop_zero]
  refine wpV_quietE cW 7 0 _ _ (by decide) (by decide) ?_
  simp only [List.take_succ_cons, List.take_zero, List.drop_succ_cons, List.drop_zero]
  repeat (go_big_quiet_step (fail))
  refine wpQuiet_nil ?_
  refine wpV_make_E rfl rfl (fun x hx _ => ?_) ?_
  · unfold makesAtE
    go_simp
    refine ⟨(Below.refl _ _).alloc (Nat.le_refl _) _, ⟨fun _ => ⟨_, rfl, ?_, Blk.new x _ _⟩⟩, fun b hbb => (by cases hbb)⟩
    obtain ⟨u, rfl⟩ := hx
    have h1 := hV.size
    have h2 := ext_size V u
    omega
  rw [e7]
  go_simp
  refine wpV_nilE ?_
  intro w1 hb1 hf _
  obtain ⟨g', q1, q2, q3⟩ := (hf 7 (by decide) rfl).p7 rfl
  rw [e7] at q1
  simp only [Value.pointer.injEq, Option.some.injEq, Addr.mk.injEq, and_true] at q1
  subst q1
  have u0 := q3.cell 0
  have u1 := q3.cell 1
  have v0 := q3.frozen 0
  have v1 := q3.frozen 1
  simp at u0 u1
  clear r4 rp rk hf hvs
  go_wp2_with (fail)
  obtain ⟨w2, hw2⟩ : ∃ x, (w1.setCell ⟨Bc, 0, none⟩ (.int .i64 (l.length : Int))).setCell ⟨Bc, 1, none⟩ (.int .i64 (k : Int)) = x := ⟨_, rfl⟩
  have kc2 : Blk w2 Bc 89 #[.int .i64 (l.length : Int), .int .i64 (k : Int)] := by
    subst hw2
    have := (q3.set_ 0 (.int .i64 (l.length : Int))).set_ 1 (.int .i64 (k : Int))
    simpa using this
  have bW2 : Below W.heap.size W w2 := by
    rw [zW]
    subst hw2; exact (hb1.setCell (p := ⟨Bc, 0, none⟩) q2 _).setCell (p := ⟨Bc, 1, none⟩) q2 _
  rw [hw2]
  have s2 := bW2.size
  have HQ := Lib.hid (kq.next bW2)
  have HP := Lib.hid (k0.next bW2)
  have HK := Lib.hid (k1.next bW2)
  have HS := Lib.hid (k2.next bW2)
  have HC := Lib.hid (own_nextK (own_nextK hC (hs ▸ b0)) bW2)
  have HM := Lib.hid ((hM.next (hs ▸ b0)).next bW2)
  have hCw := hC
  have HB := Lib.hid (b0.trans (bW2.mono (by omega)))
  have HCL := Lib.hid kc2
  have hbc := q2
  have lBc := kc2.lt
  have hm16 := hr.hm'
  have HR := Lib.hid (show ∀ x, Below D w x → RingAt x m e b1 o1 la ca b2 o2 lb cb S P from fun x hx => hr.next (hw0.trans (hx.mono hwD)))
  clear hw2 hb1 u0 u1 v0 v1 q3 q2 kq k0 k1 k2 hC hM hr hw0 hq bW2 b0 q4 cp ck
  gi_wp2_with (fail)
  refine wpIn_wide.2 ?_
  obtain ⟨row, hrow⟩ : ∃ row, (Value.slice AC l.length cC).ownBlock = row := ⟨_, rfl⟩
  have HRW := Lib.hid hrow
  have hrb : ∀ g t cs, Blk w2 g t cs → 89 ≠ t → some g ≠ row := fun g t cs hb hne e => own_blk_ne HC.out hb hne (e.trans hrow.symm)
  have HRB := Lib.hid hrb
  clear hrow hrb
  refine wp_region_makersR (GpR row D 89 2 l.length (clsV l) [.int .i64 (l.length : Int), .int .i64 (k : Int)]) (fun _ _ => True) 10 (fun i => i == 6 || i == 7) (GpPhi 6 7 row D w2.heap.size 89 2 l.length (clsV l) [.int .i64 (l.length : Int), .int .i64 (k : Int)]) (GpSh 6 7 l.length) (gp0 6 l.length) probe (by kernel_rfl) (by kernel_rfl)
    GpR.refl GpR.trans (fun _ _ _ => trivial) (GpR.drew _) trivial GpPhi_stable (fun i v x _ => GpSh_of i v x) (fun i _ => GpSh_zero (by decide) i) ?_
  intro V hV vs hvs
  obtain ⟨g6, e6⟩ := (hvs 6 rfl).pa rfl
  obtain ⟨g7, c7, e7⟩ := (hvs 7 rfl).pb rfl
  have cW : ∃ x, extCR (GpR row D 89 2 l.length (clsV l) [.int .i64 (l.length : Int), .int .i64 (k : Int)]) V x := ⟨V, extCR_of (GpR.refl V)⟩
  have KG := Lib.hid (show ∀ x, extCR (GpR row D 89 2 l.length (clsV l) [.int .i64 (l.length : Int), .int .i64 (k : Int)]) V x → GpR row D 89 2 l.length (clsV l) [.int .i64 (l.length : Int), .int .i64 (k : Int)] w2 x from fun x ⟨u, hu⟩ => by rw [hu]; exact GpR.trans _ _ _ hV u.rel)
  have fp : ∀ u : ExtR (GpR row D 89 2 l.length (clsV l) [.int .i64 (l.length : Int), .int .i64 (k : Int)]) V, (extR _ V u).cell? ⟨s, 0, none⟩ = some (.pointer (some ⟨bq, 0, none⟩)) := fun u => by
    have h1 : Blk (extR _ V u) s _ _ := ((KG.out _ ⟨u, rfl⟩).1.block s HP.out.lt (HRB.out _ _ _ HP.out (by decide))).trans HP.out
    have := h1.cell 0
    simpa using this
  have fc : ∀ u : ExtR (GpR row D 89 2 l.length (clsV l) [.int .i64 (l.length : Int), .int .i64 (k : Int)]) V, (extR _ V u).cell? ⟨bq, 4, none⟩ = some (.slice AC l.length cC) := fun u => by
    have h1 : Blk (extR _ V u) bq _ _ := ((KG.out _ ⟨u, rfl⟩).1.block bq HQ.out.lt (HRB.out _ _ _ HQ.out (by decide))).trans HQ.out
    have := h1.cell 4
    simpa [quoC] using this
  have hrc : some Bc ≠ row := fun e => by
    have h1 := (hCw.lt Bc (HRW.out.trans e.symm)).2
    omega
  have fB := Lib.hid (show ∀ x, extCR (GpR row D 89 2 l.length (clsV l) [.int .i64 (l.length : Int), .int .i64 (k : Int)]) V x → Blk x Bc 89 #[.int .i64 (l.length : Int), .int .i64 (k : Int)] from fun x hx => ((KG.out x hx).1.block Bc HCL.out.lt hrc).trans HCL.out)
  clear hV
  simp only [List.take_succ_cons, List.take_zero, List.drop_succ_cons, List.drop_zero]
  refine wpV_quietR cW 6 0 _ _ (by decide) (by decide) (fun o ho => plain_noEnter (List.all_eq_true.1 (by rfl) o ho)) ?_
  simp only [List.take_succ_cons, List.take_zero, List.drop_succ_cons, List.drop_zero]
  repeat (first
    | (refine wpQuiet_load_row rfl 89 (.tmp 6) rfl Bc rfl _ #[.int .i64 (l.length : Int), .int .i64 (k : Int)] _ (fun x hx => fB.out x hx) Tryz.underlying89 rfl (by kernel_rfl) ?_; go_simp)
    | (go_big_quiet_step (fail)))
  refine wpQuiet_nil ?_
  refine wpV_make_R rfl rfl (fun x fu hx _ _ => ?_) ?_
  · unfold makesAtR
    go_simp
    have kn : Blk (x.alloc (.cells #[.int .i64 (l.length : Int), .int .i64 (k : Int)] 89)) x.heap.size 89 #[.int .i64 (l.length : Int), .int .i64 (k : Int)] := Blk.new x _ _
    refine ⟨GpR.of_below ((Below.refl _ _).alloc (Nat.le_refl _) _), trivial, ⟨fun _ => ⟨_, rfl, fun e => ?_, kn.lt, fun j u hu => ?_⟩, fun e => absurd e (by decide)⟩⟩
    · have h1 := (hCw.lt x.heap.size (HRW.out.trans e.symm)).2
      have h2 := (KG.out x hx).1.size
      omega
    · rw [kn.cell j, ← hu]
      rw [← Array.getElem?_toList]
  rw [e6]
  go_simp
  refine wpV_make_R rfl rfl (fun x fu hx _ hd => ?_) ?_
  · obtain ⟨g', q1, _, _, q4⟩ := (hd ⟨6, .data⟩ (by simp) rfl rfl).pa rfl
    rw [e6] at q1
    simp only [Value.slice.injEq, Option.some.injEq, Addr.mk.injEq, and_true] at q1
    subst q1
    obtain ⟨i0, hi, hz0, hz1, hz2⟩ := info_parts cls_info
    have hxs := (KG.out x hx).1.size
    exact makesR_mono (makes_appG (D0 := w2.heap.size) (.tmp 19) (.tmp 21) rfl _ x Tryz.underlying79 hi hz0 hz1 hz2 rfl (by decide) rfl rfl ((KG.out x hx).2.2 _ HC.out) HRW.out rfl q4 (by intro u hu; simp at hu; rcases hu with rfl | rfl <;> rfl) (by omega) (by omega) (by omega) hxs) fun v x' h => ⟨fun e => absurd e (by decide), fun _ => h⟩
  rw [e7]
  go_simp
  refine wpV_quietR cW 2 _ _ _ (by decide) (by decide) (fun o ho => plain_noEnter (List.all_eq_true.1 (by rfl) o ho)) ?_
  simp only [List.take_succ_cons, List.take_zero, List.drop_succ_cons, List.drop_zero]
  repeat (go_big_quiet_step (fail))
  refine wpQuiet_nil ?_
  refine wpV_nilR ?_
  intro w3 hR3 hf
  have h7 := (hf 7 (by decide) (.inr rfl)).pb rfl
  rw [e7] at h7
  obtain ⟨ho7, hat7⟩ := h7
  have hq3 : Blk w3 bq 82 _ := (hR3.1.block bq HQ.out.lt (HRB.out _ _ _ HQ.out (by decide))).trans HQ.out
  have kc3 := hq3.cell 4
  have kf3 := hq3.frozen 4
  simp [quoC] at kc3
  have hp3 : Blk w3 s _ _ := (hR3.1.block s HP.out.lt (HRB.out _ _ _ HP.out (by decide))).trans HP.out
  have hk3 : Blk w3 (s + 1) _ _ := (hR3.1.block (s + 1) HK.out.lt (HRB.out _ _ _ HK.out (by decide))).trans HK.out
  have hs3 : Blk w3 (s + 2) _ _ := (hR3.1.block (s + 2) HS.out.lt (HRB.out _ _ _ HS.out (by decide))).trans HS.out
  have hc3 : Blk w3 Bc _ _ := (hR3.1.block Bc HCL.out.lt hrc).trans HCL.out
  have hm3 := HM.out.kept hR3.1 (fun e => HM.out.ne_row HC.out (e.trans HRW.out.symm))
  have hb3 : Below D w w3 := (HB.out.mono (by omega)).grown hR3.1 (by omega) (fun j hj => (HC.out.lt j (HRW.out.trans hj)).1)
  have z3 := hR3.1.size
  have hs0 : s ≠ bq := fun e => by subst e; omega
  clear fp fc fB hR3 hf hvs
  go_wp2_with (fail)
  obtain ⟨w4, hw4⟩ : ∃ x, w3.setCell ⟨bq, 4, none⟩ (.slice (some ⟨g7, 0, none⟩) (l.length + 1) c7) = x := ⟨_, rfl⟩
  have hq4 : Blk w4 bq 82 (quoC m e b1 o1 la ca b2 o2 lb cb (.slice (some ⟨g7, 0, none⟩) (l.length + 1) c7) bm) := by
    subst hw4
    have := hq3.set_ 4 (.slice (some ⟨g7, 0, none⟩) (l.length + 1) c7)
    simpa [quoC] using this
  have ho4 : w4.ownsRow D 89 2 (.slice (some ⟨g7, 0, none⟩) (l.length + 1) c7) (l ++ [k]).length (clsV (l ++ [k])) := by
    subst hw4
    rw [clsV_snoc, List.length_append, List.length_singleton]
    exact ownsRow_setCell_other ho7 (fun e => own_blk_ne ho7 hq3 (by decide) e.symm) _
  have hb4 : Below D w w4 := by subst hw4; exact hb3.setCell (p := ⟨bq, 4, none⟩) hDq _
  have hp4 := hp3.far (p := ⟨bq, 4, none⟩) hs0 (.slice (some ⟨g7, 0, none⟩) (l.length + 1) c7)
  have hk4 := hk3.far (p := ⟨bq, 4, none⟩) (by show s + 1 ≠ bq; omega) (.slice (some ⟨g7, 0, none⟩) (l.length + 1) c7)
  have hs4 := hs3.far (p := ⟨bq, 4, none⟩) (by show s + 2 ≠ bq; omega) (.slice (some ⟨g7, 0, none⟩) (l.length + 1) c7)
  have hc4 := hc3.far (p := ⟨bq, 4, none⟩) (by show Bc ≠ bq; omega) (.slice (some ⟨g7, 0, none⟩) (l.length + 1) c7)
  have hm4 := hm3.heap (Below.heap_setCell w3 ⟨bq, 4, none⟩ (.slice (some ⟨g7, 0, none⟩) (l.length + 1) c7) bm (fun e => by have e : bm = bq := e; subst e; exact hm3.ne_blk hq3))
  rw [hw4] at hp4 hk4 hs4 hc4 hm4 ⊢
  have z4 : w3.heap.size ≤ w4.heap.size := by subst hw4; simp
  clear hw4 hq3 hp3 hk3 hs3 hc3 hm3 hb3 kc3 kf3 ho7 hat7
  gi_wp2_with (fail)
  refine wpIn_wide.2 ?_
  refine wp_region_makersE 6 mk0 phi0 sh0 (fun _ => undef) probe (by kernel_rfl) (by kernel_rfl) (fun _ _ _ _ _ _ => trivial) (fun _ _ _ _ _ => trivial) (fun _ _ => trivial) ?_
  intro V hV vs hvs
  have cW : ∃ x, extC V x := ⟨V, extC_of (Below.refl _ _)⟩
  have r0 := (hq4.next hV).cell 0
  have r1 := (hq4.next hV).cell 1
  have r2 := (hq4.next hV).cell 2
  have r3 := (hq4.next hV).cell 3
  have rp := (hp4.next hV).cell 0
  have gs := (hs4.next hV).inC
  have hip := set_info (setP_size (p := p))
  simp [quoC] at r0 r1 r2 r3 rp
  clear hvs
  simp only [List.take_succ_cons, List.take_zero, List.drop_succ_cons, List.drop_zero]
  refine wpV_quietE cW 6 0 _ _ (fun _ _ => rfl) (by decide) ?_
  simp only [List.take_succ_cons, List.take_zero, List.drop_succ_cons, List.drop_zero]
  repeat (first
    | (refine wpQuiet_load_row rfl 50 (.tmp 5) rfl (s + 2) rfl _ (setP p) _ gs Tryz.underlying50 rfl hip ?_; go_simp)
    | (go_big_quiet_step (fail)))
  refine wpQuiet_nil ?_
  refine wpV_nilE ?_
  intro w5 hb5 _ _
  have HQ5 := Lib.hid (hq4.next hb5)
  have HP5 := Lib.hid (hp4.next hb5)
  have HK5 := Lib.hid (hk4.next hb5)
  have HC5 := Lib.hid (hc4.next hb5)
  have HM5 := Lib.hid (hm4.next hb5)
  have HO5 := Lib.hid (own_nextK ho4 hb5)
  have HB5 := Lib.hid (hb4.trans (hb5.mono (by omega)))
  have z5 := hb5.size
  clear hb5 hV r0 r1 r2 r3 rp gs hq4 hp4 hk4 hs4 hc4 hm4 ho4 hb4
  go_wp2_with (fail)
  refine (where_any m e _ _ la ca lb cb 65 #[.agg (setP p)] w5).mono ?_
  rintro e6 w6 ⟨rfl, hB1, hB2, hb6⟩
  obtain ⟨Br, hBr⟩ : ∃ Br, w5.heap.size = Br := ⟨_, rfl⟩
  rw [hBr] at hB1 hB2
  rw [hBr]
  have s1 := hb6.size
  have r1 := hB1.lt
  have r2 := hB2.lt
  have HQ := Lib.hid (HQ5.out.next hb6)
  have HP := Lib.hid (HP5.out.next hb6)
  have HK := Lib.hid (HK5.out.next hb6)
  have HC := Lib.hid (HC5.out.next hb6)
  have HM := Lib.hid (HM5.out.next hb6)
  have HO := Lib.hid (own_nextK HO5.out hb6)
  have HB := Lib.hid (HB5.out.trans (hb6.mono (by omega)))
  have HB1 := Lib.hid hB1
  have HB2 := Lib.hid hB2
  have SQ := Lib.hid (has_K 5 D m p _ w6 (by decide) hm16 hB1 rfl hB2 (by omega))
  have bml := HM5.out.lt
  have bmB : bm < Br := by omega
  clear hb6 hB1 hB2
  go_wp2_with (fail)
  gi_wp2
  have hrange : ∀ pre : List (Fin m), (finN pre).length ≤ m → True := fun _ _ => trivial
  refine wpIn_rangeFunc_ownG rfl (by omega) (gf := 106) (lb := #[.pointer (some ⟨Br, 0, none⟩), .pointer (some ⟨Br + 1, 0, none⟩)]) rfl trivial (enters_of Tryz.func106 (by kernel_rfl) rfl) SQ.out KpA_t (KpA_b (by omega) r1 r2) (Below.refl _ _) (fun _ => rfl)
    (fun pre V => (Blk V bq 82 (quoC m e b1 o1 la ca b2 o2 lb cb (.slice (some ⟨g7, 0, none⟩) (l.length + 1) c7) bm) ∧ Blk V s 139 #[.pointer (some ⟨bq, 0, none⟩)] ∧ Blk V (s + 1) 3 #[.int .i64 k] ∧ Blk V Bc 89 #[.int .i64 (l.length : Int), .int .i64 (k : Int)] ∧ Blk V Br 25 #[.int .i64 m, .int .i64 e, .slice (some ⟨b1, o1, none⟩) la ca, .slice (some ⟨b2, o2, none⟩) lb cb] ∧ Blk V (Br + 1) 76 #[.func (.func 65) #[.agg (setP p)] #[]]) ∧
      (MapC (kk + pre.length) V bm (fun x => if decide (x ∈ (finN pre).map fun b => S (k * m + b)) = true then some (l.length, k) else f x) ∧ V.ownsRow D 89 2 (.slice (some ⟨g7, 0, none⟩) (l.length + 1) c7) (l ++ [k]).length (clsV (l ++ [k]))) ∧ Below D w V)
    (fun _ _ _ => False)
    (OwnFrom.and (OwnFrom.and (ownFrom_blk _ _ _ (fun _ => _)) (OwnFrom.and (ownFrom_blk _ _ _ (fun _ => _)) (OwnFrom.and (ownFrom_blk _ _ _ (fun _ => _)) (OwnFrom.and (ownFrom_blk _ _ _ (fun _ => _)) (OwnFrom.and (ownFrom_blk _ _ _ (fun _ => _)) (ownFrom_blk _ _ _ (fun _ => _))))))) (OwnFrom.and (OwnFrom.and (ownFrom_map (by omega)) ownFrom_row) (ownFrom_below (by omega) (by omega))))
    (fun _ _ _ _ _ hs _ _ => hs)
    ⟨⟨HQ.out, HP.out, HK.out, HC.out, HB1.out, HB2.out⟩, ⟨HM.out.congr (fun x _ => by simp [finN]), HO.out⟩, HB.out⟩
    (fun x => { tmps := #[.pointer (some ⟨bq, 0, none⟩), .int .i64 k, .agg (setP p), .pointer (some ⟨s, 0, none⟩), .pointer (some ⟨s + 1, 0, none⟩), .pointer (some ⟨s + 1 + 1, 0, none⟩), .pointer (some ⟨Bc, 0, none⟩), .int .i64 (x.1 : Int),
      .pointer (some ⟨bq, 0, none⟩), .pointer (some ⟨bq, 0, none⟩), .pointer (some ⟨bq, 4, none⟩), .slice AC l.length cC, .int .i64 (l.length : Int), .int .i64 k, .agg #[.int .i64 (l.length : Int), .int .i64 k], .pointer (some ⟨bq, 0, none⟩), .pointer (some ⟨bq, 0, none⟩), .pointer (some ⟨bq, 0, none⟩), .pointer (some ⟨bq, 4, none⟩), .slice AC l.length cC, .agg #[.int .i64 (l.length : Int), .int .i64 k],
      .slice (some ⟨g6, 0, none⟩) 1 1, .slice (some ⟨g7, 0, none⟩) (l.length + 1) c7, .pointer (some ⟨bq, 0, none⟩), .pointer (some ⟨bq, 4, none⟩), .pointer (some ⟨bq, 0, none⟩), .pointer (some ⟨bq, 0, none⟩), .pointer (some ⟨bq, 0, none⟩), .agg #[.int .i64 m, .int .i64 e, .slice (some ⟨b1, o1, none⟩) la ca, .slice (some ⟨b2, o2, none⟩) lb cb], .agg (setP p), .func (.func 65) #[.agg (setP p)] #[],
      .func (.func 106) #[] #[.pointer (some ⟨Br, 0, none⟩), .pointer (some ⟨Br + 1, 0, none⟩)], .int .i64 (x.1 : Int), undef, undef, undef, undef, undef, undef, undef, undef, undef, undef, undef, undef], defers := [] }) ?assign ?body ?done ?stop
  case assign =>
    intro l x V K hK
    gi_wp2
    exact hK
  case body =>
    rintro lp pre x V ⟨⟨h1, h2, h3, h4, h5, h6⟩, ⟨h7, h8⟩, hB⟩ hlt
    have KQ := Lib.hid h1
    have KP := Lib.hid h2
    have KK := Lib.hid h3
    have KC := Lib.hid h4
    have KR := Lib.hid h5
    have KF := Lib.hid h6
    have KM := Lib.hid h7
    have KO := Lib.hid h8
    have KB := Lib.hid hB
    have zV := hB.size
    clear h1 h2 h3 h4 h5 h6 h7 h8 hB
    gi_wp2_with (fail)
    refine wpIn_region_makersR 12 mk0 phi0 sh0 (fun _ => undef) probe (by kernel_rfl) (by kernel_rfl) (by kernel_rfl) (fun _ _ _ _ _ _ => trivial) (fun _ _ _ _ _ => trivial) (fun _ _ => trivial) ?_
    intro V2 hV2 vs hvs
    have cW : ∃ x, extC V2 x := ⟨V2, extC_of (Below.refl _ _)⟩
    have q0 := (KQ.out.next hV2).cell 0
    have q1 := (KQ.out.next hV2).cell 1
    have q2 := (KQ.out.next hV2).cell 2
    have q3 := (KQ.out.next hV2).cell 3
    have q5 := (KQ.out.next hV2).cell 5
    have rp := (KP.out.next hV2).cell 0
    have rk := (KK.out.next hV2).cell 0
    have gc := (KC.out.next hV2).inC
    have RV := Lib.hid (show ∀ u, RingAt (ext V2 u) m e b1 o1 la ca b2 o2 lb cb S P from fun u => HR.out _ (KB.out.trans ((below_step hV2 (ext_below V2 u)).mono (by omega))))
    simp [quoC] at q0 q1 q2 q3 q5 rp rk
    clear hvs hV2
    simp only [List.take_succ_cons, List.take_zero, List.drop_succ_cons, List.drop_zero]
    refine wpV_quietE cW 12 0 _ _ (fun _ _ => rfl) (by decide) ?_
    simp only [List.take_succ_cons, List.take_zero, List.drop_succ_cons, List.drop_zero]
    repeat (first
      | (refine wpQuiet_load_row rfl 89 (.tmp 6) rfl Bc rfl _ #[.int .i64 (l.length : Int), .int .i64 (k : Int)] _ gc Tryz.underlying89 rfl (by kernel_rfl) ?_; go_simp)
      | (go_big_quiet_step ((go_at_call 103; exact calls_ext (sum_any k x.1 m e b1 o1 la ca b2 o2 lb cb S P _ (RV.out _) hk x.2)))))
    refine wpQuiet_nil ?_
    refine wpV_nilE ?_
    intro w7 hb7 _ _
    have hsl : S (k * m + x.1) < m := hSm k x.1 hk x.2
    have hpl : pre.length ≤ 300 := by omega
    obtain ⟨w8, hrun, hM8, hg8⟩ := (KM.out.next hb7).put (x := S (k * m + x.1)) (i := l.length) (l := k) (by omega) (by omega)
    have hrow8 := (KM.out.next hb7).ne_row (own_nextK KO.out hb7)
    have nb : ∀ {g : Nat} {t : TypeId} {cs : Array Value}, Blk V g t cs → Blk w8 g t cs := fun {g t cs} h => by
      have h9 := h.next hb7
      exact (hg8.block g h9.lt (fun e => by simp only [Option.some.injEq] at e; subst e; exact (KM.out.next hb7).ne_blk h9)).trans h9
    have P1 := Lib.hid (nb KQ.out)
    have P2 := Lib.hid (nb KP.out)
    have P3 := Lib.hid (nb KK.out)
    have P4 := Lib.hid (nb KC.out)
    have P5 := Lib.hid (nb KR.out)
    have P6 := Lib.hid (nb KF.out)
    have P7 := Lib.hid (hM8.more (Nat.le_refl _))
    have P8 := Lib.hid (World.ownsRow.kept (own_nextK KO.out hb7) hg8 (.inr (fun e => hrow8 e.symm)))
    have z7 := hb7.size
    have b8 : Below D V w8 := (hb7.mono (show D ≤ V.heap.size by omega)).grown hg8 (by omega) (fun j e => by simp only [Option.some.injEq] at e; omega)
    have P9 := Lib.hid b8
    have P10 := Lib.hid (KB.out.trans b8)
    have P11 := Lib.hid ((KeepsFrom.of_grownBy (B := w6.heap.size) (row := none) (grownBy_below hb7) (fun j e => by cases e)).trans (KeepsFrom.of_grownBy hg8 (fun j e => by simp only [Option.some.injEq] at e; omega)))
    have P12 := Lib.hid (P5.out.trans KR.out.symm)
    have P13 := Lib.hid (P6.out.trans KF.out.symm)
    refine wpList_update_run _ w8 rfl _ _ _ 80 rfl _ _ _ rfl rfl rfl hrun ?_
    clear hrun hM8 hg8 hrow8 hb7 nb b8 q0 q1 q2 q3 q5 rp rk gc
    go_wp2
    refine ⟨P11.out, ⟨P9.out, P12.out, P13.out⟩, ⟨P1.out, P2.out, P3.out, P4.out, P5.out, P6.out⟩, ⟨?_, P8.out⟩, P10.out⟩
    have h := P7.out.congr (g := fun y => if decide (y ∈ (finN (pre ++ [x])).map fun b => S (k * m + b)) = true then some (l.length, k) else f y) (fun y _ => map_snoc (T := fun b => S (k * m + b)))
    rw [List.length_append, List.length_singleton, ← Nat.add_assoc]
    exact h
  case done =>
    rintro D' ys V hD' rfl ⟨⟨h1, _, _, _, _, _⟩, ⟨h7, h8⟩, hB⟩ hK
    have hbm : bm < w6.heap.size := by omega
    gi_wp2
    refine ⟨by simp, .inl ⟨_, _, rfl, run_takeDeferred hK, ?_⟩⟩
    have hsl : (selTo m p m).length ≤ m := selTo_len m
    refine ⟨.tuple #[], results_none rfl _ _ _, ⟨_, rfl⟩, hB.trans (belowK_b (w := w6) (by omega) V D' _ _ hD' hK rfl rfl), .slice (some ⟨g7, 0, none⟩) (l.length + 1) c7, blk_putObj h1 hK rfl, (ownFrom_row (β := Unit) (B := 0)).putObj _ (s := ()) h8 (Nat.zero_le _) hK rfl, ?_⟩
    exact ((ownFrom_map (β := Unit) (kf := fun _ => kk + (selTo m p m).length) (ff := fun _ x => if decide (x ∈ (finN (selTo m p m)).map fun b => S (k * m + b)) = true then some (l.length, k) else f x) hbm).putObj _ (s := ()) h7 hD' hK rfl).more (by omega)
  case stop =>
    rintro D' c pre W _ _ h _
    exact h.elim

end Go.Proofs.YtajoimopahibcaaGreat



/- quotientOf of the program: all classes by an ideal. -/
namespace Go.Proofs.YtajoimopahibcaaGreat
open Go.RowKit Go.Shelf
set_option maxRecDepth 100000

/-- The class of an element, among those of the elements below k. -/
noncomputable def fmC (m : Nat) (S : Nat → Nat) (p : Nat → Bool) (k x : Nat) : Option (Nat × Nat) := if donB m S p k x = true then some (namK m S p k x, ((leas m S p k)[namK m S p k x]?).getD 0) else none
section
variable {m e k : Nat} {S P : Nat → Nat} {p : Nat → Bool}
theorem fm_zero {x : Nat} : fmC m S p 0 x = none := rfl
theorem fm_no (h : donB m S p k k = true) : fmC m S p (k + 1) = fmC m S p k := funext fun x => by unfold fmC namK; rw [don_no h, leas_no h]
theorem mem_cos {x : Nat} (hp : ∀ i, p i = true → i < m) : x ∈ (finN (selTo m p m)).map (fun b => S (k * m + b)) ↔ cosB m S p k x = true := by
  rw [List.mem_map, cos_iff]
  constructor
  · rintro ⟨b, hb, rfl⟩; exact ⟨b, (lst_in.1 hb).2, rfl⟩
  · rintro ⟨b, hb, rfl⟩; exact ⟨b, lst_in.2 ⟨hp b hb, hb⟩, rfl⟩
theorem RTab.fm_yes (R : RTab m S P e) (hp : Idl m S P p) (hk : k < m) (h : donB m S p k k = false) (x : Nat) :
    (if decide (x ∈ (finN (selTo m p m)).map fun b => S (k * m + b)) = true then some ((leas m S p k).length, k) else fmC m S p k x) = fmC m S p (k + 1) x := by
  by_cases hc : cosB m S p k x = true
  · rw [if_pos (by rw [decide_eq_true_iff]; exact (mem_cos hp.lt).2 hc)]
    have hn : (leas m S p k).any (fun a => cosB m S p a x) = false := by
      rw [← Bool.not_eq_true]
      intro ha
      obtain ⟨a, h1, h2⟩ := List.any_eq_true.1 ha
      have := R.cos_trans hp (Nat.lt_trans (leas_lt h1) hk) h2 (R.cos_symm hp hk hc)
      unfold donB at h
      rw [List.any_eq_true.2 ⟨a, h1, this⟩] at h
      cases h
    unfold fmC
    rw [don_yes h]
    have e1 : namK m S p (k + 1) x = (leas m S p k).length := by unfold namK; rw [leas_yes h]; exact findIdx_new hn hc
    rw [if_pos (by simp [hc]), e1, leas_yes h]
    simp
  · rw [if_neg (by rw [decide_eq_true_iff]; intro h2; exact hc ((mem_cos hp.lt).1 h2))]
    unfold fmC
    rw [don_yes h]
    have hcf : cosB m S p k x = false := by rw [← Bool.not_eq_true]; exact hc
    simp only [hcf, Bool.or_false]
    by_cases hd : donB m S p k x = true
    · rw [if_pos hd, if_pos hd]
      have e1 : namK m S p (k + 1) x = namK m S p k x := by unfold namK; rw [leas_yes h]; exact findIdx_app hd
      obtain ⟨hl, _⟩ := nam_get (k := k) (x := x) hd
      rw [e1, leas_yes h, List.getElem?_append_left hl]
    · rw [if_neg hd, if_neg hd]
theorem fm_none {x : Nat} (h : donB m S p k x = false) : fmC m S p k x = none := if_neg (by rw [h]; simp)
theorem fm_some {x : Nat} (h : donB m S p k x = true) : fmC m S p k x = some (namK m S p k x, ((leas m S p k)[namK m S p k x]?).getD 0) := if_pos h
theorem RTab.don_all (R : RTab m S P e) (hp : Idl m S P p) {x : Nat} (hx : x < m) : donB m S p m x = true := by
  obtain ⟨a, h1, h2⟩ := R.leas_cover hp (Nat.le_refl m) hx
  exact List.any_eq_true.2 ⟨a, h1, h2⟩
end

/-- What a quotient holds. -/
def QSt (m e b1 o1 la ca b2 o2 lb cb : Nat) (S : Nat → Nat) (p : Nat → Bool) (D : Nat) (w : World) (mv : Value) : Prop :=
  ∃ vC bm, mv = .agg (quoC m e b1 o1 la ca b2 o2 lb cb vC bm) ∧ w.ownsRow D 89 2 vC (leas m S p m).length (clsV (leas m S p m)) ∧ MapC 300 w bm (fmC m S p m) ∧ D ≤ bm

/-- A box of six cells is filled. -/
def set6 (w : World) (b : Nat) (v0 v1 v2 v3 v4 v5 : Value) : World := (((((w.setCell ⟨b, 0, none⟩ v0).setCell ⟨b, 1, none⟩ v1).setCell ⟨b, 2, none⟩ v2).setCell ⟨b, 3, none⟩ v3).setCell ⟨b, 4, none⟩ v4).setCell ⟨b, 5, none⟩ v5
section
variable {w : World} {b : Nat} {v0 v1 v2 v3 v4 v5 : Value}
theorem set6_blk {a0 a1 a2 a3 a4 a5 : Value} {t : TypeId} (h : Blk w b t #[a0, a1, a2, a3, a4, a5]) : Blk (set6 w b v0 v1 v2 v3 v4 v5) b t #[v0, v1, v2, v3, v4, v5] := by
  have := (((((h.set_ 0 v0).set_ 1 v1).set_ 2 v2).set_ 3 v3).set_ 4 v4).set_ 5 v5
  simpa [set6] using this
theorem set6_own {D n size : Nat} {e : TypeId} {v : Value} {xs : List Value} (h : w.ownsRow D e size v n xs) (hb : v.ownBlock ≠ some b) : (set6 w b v0 v1 v2 v3 v4 v5).ownsRow D e size v n xs :=
  ownsRow_setCell_other (ownsRow_setCell_other (ownsRow_setCell_other (ownsRow_setCell_other (ownsRow_setCell_other (ownsRow_setCell_other h hb _) hb _) hb _) hb _) hb _) hb _
theorem set6_heap {g : Nat} (hg : g ≠ b) : (set6 w b v0 v1 v2 v3 v4 v5).heap[g]? = w.heap[g]? := by
  unfold set6
  rw [Below.heap_setCell _ ⟨b, 5, none⟩ _ g hg, Below.heap_setCell _ ⟨b, 4, none⟩ _ g hg, Below.heap_setCell _ ⟨b, 3, none⟩ _ g hg, Below.heap_setCell _ ⟨b, 2, none⟩ _ g hg, Below.heap_setCell _ ⟨b, 1, none⟩ _ g hg, Below.heap_setCell _ ⟨b, 0, none⟩ _ g hg]
theorem set6_below {D : Nat} {w' : World} (h : Below D w' w) (hb : D ≤ b) : Below D w' (set6 w b v0 v1 v2 v3 v4 v5) :=
  (((((h.setCell (p := ⟨b, 0, none⟩) hb _).setCell (p := ⟨b, 1, none⟩) hb _).setCell (p := ⟨b, 2, none⟩) hb _).setCell (p := ⟨b, 3, none⟩) hb _).setCell (p := ⟨b, 4, none⟩) hb _).setCell (p := ⟨b, 5, none⟩) hb _
end

set_option maxHeartbeats 8000000 in
theorem quotientOf_no (n o : Int) (A B C : Option Addr) (la ca lb cb len cap : Nat) (X Y L : List Int) (w : World) (ht : isIdB n o X Y L = false) (hX : Ints w w.heap.size A la X) (hY : Ints w w.heap.size B lb Y) (hL : Ints w w.heap.size C len L) (hla : la ≤ 9223372036854775807) (hlb : lb ≤ 9223372036854775807) (hlen : len ≤ 9223372036854775807) (hca : la ≤ ca) (hcb : lb ≤ cb) :
    Calls Tryz.prog 71 #[.agg #[.int .i64 n, .int .i64 o, .slice A la ca, .slice B lb cb], .slice C len cap] w fun e' w' => e' = .returned (.tuple #[.agg #[.int .i64 0, .int .i64 0, .slice none 0 0, .slice none 0 0, .slice none 0 0, .map none], .bool false]) ∧ Below w.heap.size w w' := by
  obtain ⟨W, hW⟩ : ∃ W, (w.alloc (.cells #[.int .i64 n, .int .i64 o, .slice A la ca, .slice B lb cb] 25)).alloc (.cells #[.int .i64 0, .int .i64 0, .slice none 0 0, .slice none 0 0, .slice none 0 0, .map none] 82) = W := ⟨_, rfl⟩
  have k0 : Blk W w.heap.size 25 #[.int .i64 n, .int .i64 o, .slice A la ca, .slice B lb cb] := by
    subst hW; exact (Blk.new w _ _).alloc _
  have k1 : Blk W (w.heap.size + 1) 82 #[.int .i64 0, .int .i64 0, .slice none 0 0, .slice none 0 0, .slice none 0 0, .map none] := by
    subst hW
    have := Blk.new (w.alloc (.cells #[.int .i64 n, .int .i64 o, .slice A la ca, .slice B lb cb] 25)) 82 #[.int .i64 0, .int .i64 0, .slice none 0 0, .slice none 0 0, .slice none 0 0, .map none]
    rw [World.size_alloc] at this
    exact this
  have b0 : Below w.heap.size w W := by
    subst hW; exact ((Below.refl _ _).alloc (Nat.le_refl _) _).alloc (by simp) _
  obtain ⟨c0, c1, c2, c3⟩ := blk4 k0
  have HX0 := Lib.hid (hX.next b0)
  have HY0 := Lib.hid (hY.next b0)
  have HL0 := Lib.hid (hL.next b0)
  have B0 := Lib.hid b0
  have HW := Lib.hid hW
  have K1 := Lib.hid k1
  have HP := Lib.hid (idS_no ht)
  have HT := Lib.hid ht
  have hip := set_info (setP_size (p := fun _ => false))
  have hop := setP_one (p := fun _ => false)
  have holdp : (#[.bool false, .bool false, .bool false, .bool false, .bool false, .bool false, .bool false, .bool false, .bool false, .bool false, .bool false, .bool false, .bool false, .bool false, .bool false, .bool false] : Array Value).size = (setP fun _ => false).size := by rw [setP_size]; rfl
  clear hX hY hL b0 hW k0 k1 ht
  go_enter Tryz.func71, Tryz.ntmps71
  go_wp2_with (fail)
  rw [HW.out]
  refine (idealSet_val HP.out HT.out HX0.out HY0.out HL0.out hla hlb hlen hca hcb).mono ?_
  rintro e1 w1 ⟨rfl, hb1⟩
  have B1 := Lib.hid (below_step B0.out hb1)
  have Q1 := Lib.hid (K1.out.next hb1)
  obtain ⟨g1, hg1⟩ : ∃ g1, w1.heap.size = g1 := ⟨_, rfl⟩
  clear hb1 c0 c1 c2 c3
  have KN1 : Blk (w1.alloc (.cells #[.bool false, .bool false, .bool false, .bool false, .bool false, .bool false, .bool false, .bool false, .bool false, .bool false, .bool false, .bool false, .bool false, .bool false, .bool false, .bool false] 50)) g1 50 #[.bool false, .bool false, .bool false, .bool false, .bool false, .bool false, .bool false, .bool false, .bool false, .bool false, .bool false, .bool false, .bool false, .bool false, .bool false, .bool false] := by rw [← hg1]; exact Blk.new _ _ _
  go_upto_region 2 with (refine wpList_store_row rfl 50 (.tmp 6) (.tmp 16) rfl g1 (setP fun _ => false) rfl rfl _ _ KN1 hip holdp hop ?_)
  obtain ⟨V1, hV1⟩ : ∃ V1, (w1.alloc (.cells #[.bool false, .bool false, .bool false, .bool false, .bool false, .bool false, .bool false, .bool false, .bool false, .bool false, .bool false, .bool false, .bool false, .bool false, .bool false, .bool false] 50)).setRow g1 (setP fun _ => false) = V1 := ⟨_, rfl⟩
  have bV1 : Below w1.heap.size w1 V1 := by subst hV1 hg1; exact set_row.2
  rw [hV1]
  have B2 := Lib.hid (below_step B1.out bV1)
  have Q2 := Lib.hid (Q1.out.next bV1)
  clear hV1 bV1 KN1
  have hi6 : (Tryz.prog.info? 82).map (·.size) = some (#[.int .i64 0, .int .i64 0, .slice none 0 0, .slice none 0 0, .slice none 0 0, .map none] : Array Value).size := by kernel_rfl
  go_upto_region 3 with (fail)
  have d0 := Q2.out.cell 0
  have d1 := Q2.out.cell 1
  have d2 := Q2.out.cell 2
  have d3 := Q2.out.cell 3
  have d4 := Q2.out.cell 4
  have d5 := Q2.out.cell 5
  have f0 := Q2.out.frozen 0
  have f1 := Q2.out.frozen 1
  have f2 := Q2.out.frozen 2
  have f3 := Q2.out.frozen 3
  have f4 := Q2.out.frozen 4
  have f5 := Q2.out.frozen 5
  simp at d0 d1 d2 d3 d4 d5
  go_wp2
  have k6 := (((((Q2.out.set_ 0 (.int .i64 0)).set_ 1 (.int .i64 0)).set_ 2 (.slice none 0 0)).set_ 3 (.slice none 0 0)).set_ 4 (.slice none 0 0)).set_ 5 (.map none)
  refine bodyPost_ret (v := .tuple #[.agg #[.int .i64 0, .int .i64 0, .slice none 0 0, .slice none 0 0, .slice none 0 0, .map none], .bool false]) ?_ rfl ⟨rfl, ?_⟩
  · exact results_cell_flag Tryz.results71 _ _ (w.heap.size + 1) 82 _ _ _ rfl rfl (by simpa using k6) Tryz.underlying82 rfl hi6
  · exact (((((B2.out.setCell (p := ⟨w.heap.size + 1, 0, none⟩) (Nat.le_succ _) _).setCell (p := ⟨w.heap.size + 1, 1, none⟩) (Nat.le_succ _) _).setCell (p := ⟨w.heap.size + 1, 2, none⟩) (Nat.le_succ _) _).setCell (p := ⟨w.heap.size + 1, 3, none⟩) (Nat.le_succ _) _).setCell (p := ⟨w.heap.size + 1, 4, none⟩) (Nat.le_succ _) _).setCell (p := ⟨w.heap.size + 1, 5, none⟩) (Nat.le_succ _) _

set_option maxHeartbeats 8000000 in
theorem quotientOf_yes (C : Option Addr) (len cap : Nat) (X Y L : List Int) (w : World) (p : Nat → Bool) (m e b1 o1 la ca b2 o2 lb cb : Nat) (ht : isIdB m e X Y L = true) (hpL : setL L = p) (hr : RingAt w m e b1 o1 la ca b2 o2 lb cb (tabOf X) (tabOf Y)) (R : RTab m (tabOf X) (tabOf Y) e) (hpI : Idl m (tabOf X) (tabOf Y) p)
    (hX : Ints w w.heap.size (some ⟨b1, o1, none⟩) la X) (hY : Ints w w.heap.size (some ⟨b2, o2, none⟩) lb Y) (hL : Ints w w.heap.size C len L) (hla : la ≤ 9223372036854775807) (hlb : lb ≤ 9223372036854775807) (hlen : len ≤ 9223372036854775807) (hca : la ≤ ca) (hcb : lb ≤ cb) :
    Calls Tryz.prog 71 #[.agg #[.int .i64 m, .int .i64 e, .slice (some ⟨b1, o1, none⟩) la ca, .slice (some ⟨b2, o2, none⟩) lb cb], .slice C len cap] w fun e' w' => ∃ mv, e' = .returned (.tuple #[mv, .bool true]) ∧ QSt m e b1 o1 la ca b2 o2 lb cb (tabOf X) p w.heap.size w' mv ∧ Below w.heap.size w w' := by
  obtain ⟨W, hW⟩ : ∃ W, (w.alloc (.cells #[.int .i64 m, .int .i64 e, .slice (some ⟨b1, o1, none⟩) la ca, .slice (some ⟨b2, o2, none⟩) lb cb] 25)).alloc (.cells #[.int .i64 0, .int .i64 0, .slice none 0 0, .slice none 0 0, .slice none 0 0, .map none] 82) = W := ⟨_, rfl⟩
  have k0 : Blk W w.heap.size 25 #[.int .i64 m, .int .i64 e, .slice (some ⟨b1, o1, none⟩) la ca, .slice (some ⟨b2, o2, none⟩) lb cb] := by
    subst hW; exact (Blk.new w _ _).alloc _
  have k1 : Blk W (w.heap.size + 1) 82 #[.int .i64 0, .int .i64 0, .slice none 0 0, .slice none 0 0, .slice none 0 0, .map none] := by
    subst hW
    have := Blk.new (w.alloc (.cells #[.int .i64 m, .int .i64 e, .slice (some ⟨b1, o1, none⟩) la ca, .slice (some ⟨b2, o2, none⟩) lb cb] 25)) 82 #[.int .i64 0, .int .i64 0, .slice none 0 0, .slice none 0 0, .slice none 0 0, .map none]
    rw [World.size_alloc] at this
    exact this
  have b0 : Below w.heap.size w W := by
    subst hW; exact ((Below.refl _ _).alloc (Nat.le_refl _) _).alloc (by simp) _
  obtain ⟨c0, c1, c2, c3⟩ := blk4 k0
  have HX0 := Lib.hid (hX.next b0)
  have HY0 := Lib.hid (hY.next b0)
  have HL0 := Lib.hid (hL.next b0)
  have B0 := Lib.hid b0
  have HW := Lib.hid hW
  have K0 := Lib.hid k0
  have K1 := Lib.hid k1
  have HP := Lib.hid ((idS_yes ht).trans hpL)
  have HT := Lib.hid ht
  have hm' := hr.hm'
  have HR0 := Lib.hid hr
  have HPI := Lib.hid hpI
  have hip := set_info (setP_size (p := p))
  have hop := setP_one (p := p)
  have holdp : (#[.bool false, .bool false, .bool false, .bool false, .bool false, .bool false, .bool false, .bool false, .bool false, .bool false, .bool false, .bool false, .bool false, .bool false, .bool false, .bool false] : Array Value).size = (setP p).size := by rw [setP_size]; rfl
  have hs0 := k1.lt
  clear hX hY hL b0 hW k0 k1 ht hr hpI hpL
  have hmm := @run_makeMap Tryz.prog
  go_enter Tryz.func71, Tryz.ntmps71
  go_wp2_with (fail)
  rw [HW.out]
  refine (idealSet_val HP.out HT.out HX0.out HY0.out HL0.out hla hlb hlen hca hcb).mono ?_
  rintro e1 w1 ⟨rfl, hb1⟩
  have B1 := Lib.hid (below_step B0.out hb1)
  have S1 := Lib.hid (K0.out.next hb1)
  have Q1 := Lib.hid (K1.out.next hb1)
  have s1 := hb1.size
  obtain ⟨g1, hg1⟩ : ∃ g1, w1.heap.size = g1 := ⟨_, rfl⟩
  clear hb1 c0 c1 c2 c3
  have KN1 : Blk (w1.alloc (.cells #[.bool false, .bool false, .bool false, .bool false, .bool false, .bool false, .bool false, .bool false, .bool false, .bool false, .bool false, .bool false, .bool false, .bool false, .bool false, .bool false] 50)) g1 50 #[.bool false, .bool false, .bool false, .bool false, .bool false, .bool false, .bool false, .bool false, .bool false, .bool false, .bool false, .bool false, .bool false, .bool false, .bool false, .bool false] := by rw [← hg1]; exact Blk.new _ _ _
  go_upto_region 2 with (refine wpList_store_row rfl 50 (.tmp 6) (.tmp 16) rfl g1 (setP p) rfl rfl _ _ KN1 hip holdp hop ?_)
  obtain ⟨V1, hV1⟩ : ∃ V1, (w1.alloc (.cells #[.bool false, .bool false, .bool false, .bool false, .bool false, .bool false, .bool false, .bool false, .bool false, .bool false, .bool false, .bool false, .bool false, .bool false, .bool false, .bool false] 50)).setRow g1 (setP p) = V1 := ⟨_, rfl⟩
  have bV1 : Below w1.heap.size w1 V1 := by subst hV1 hg1; exact set_row.2
  have kV1 : Blk V1 g1 50 (setP p) := by subst hV1 hg1; exact set_row.1
  rw [hV1]
  have B2 := Lib.hid (below_step B1.out bV1)
  have S2 := Lib.hid (S1.out.next bV1)
  have Q2 := Lib.hid (Q1.out.next bV1)
  have G1 := Lib.hid kV1
  have s2 := kV1.lt
  obtain ⟨c0, c1, c2, c3⟩ := blk4 S2.out
  have hg2 : w.heap.size + 1 < g1 := by omega
  clear hV1 bV1 kV1 KN1 hg1
  go_upto_region 5 with (fail)
  obtain ⟨bm, hbm⟩ : ∃ bm, V1.heap.size = bm := ⟨_, rfl⟩
  obtain ⟨V2, hV2⟩ : ∃ V2, (V1.alloc (.map #[] 0)).alloc (.cells #[.int .i64 m, .int .i64 e, .slice (some ⟨b1, o1, none⟩) la ca, .slice (some ⟨b2, o2, none⟩) lb cb, .slice none 0 0, .map (some bm)] 82) = V2 := ⟨_, rfl⟩
  have bV2 : Below V1.heap.size V1 V2 := by subst hV2; exact ((Below.refl _ _).alloc (Nat.le_refl _) _).alloc (by simp) _
  have kQ : Blk V2 (bm + 1) 82 (quoC m e b1 o1 la ca b2 o2 lb cb (.slice none 0 0) bm) := by
    subst hV2 hbm
    have := Blk.new (V1.alloc (.map #[] 0)) 82 #[.int .i64 m, .int .i64 e, .slice (some ⟨b1, o1, none⟩) la ca, .slice (some ⟨b2, o2, none⟩) lb cb, .slice none 0 0, .map (some V1.heap.size)]
    rw [World.size_alloc] at this
    exact this
  have kM : MapC 0 V2 bm (fun _ => none) := by
    subst hV2 hbm
    exact (MapC.made V1).next ((Below.refl _ _).alloc (Nat.le_refl _) _)
  rw [hbm]
  rw [hV2]
  have B3 := Lib.hid (below_step B2.out bV2)
  have S3 := Lib.hid (S2.out.next bV2)
  have Q3 := Lib.hid (Q2.out.next bV2)
  have G3 := Lib.hid (G1.out.next bV2)
  have KQ := Lib.hid kQ
  have KM := Lib.hid kM
  have l3 := kQ.lt
  have hbm1 : g1 < bm := by omega
  obtain ⟨c0, c1, c2, c3⟩ := blk4 S3.out
  have TB := Lib.hid (show ∀ x, Below bm V2 x → Below w.heap.size w x from fun x hx => B3.out.trans (hx.mono (by omega)))
  have TS := Lib.hid (show ∀ x, Below bm V2 x → Blk x g1 50 (setP p) from fun x hx => (hx.block g1 hbm1).trans G3.out)
  have TQ := Lib.hid (show ∀ x, Below bm V2 x → Blk x (w.heap.size + 1) 82 #[.int .i64 0, .int .i64 0, .slice none 0 0, .slice none 0 0, .slice none 0 0, .map none] from fun x hx => (hx.block _ (by omega)).trans Q3.out)
  clear bV2 kQ kM hV2 hbm hmm
  go_wp2
  go_loopg [26] m (fun g vi wr => ∃ (k : Nat) (vC : Value), k ≤ m ∧ m ≤ k + g ∧ vi = .int .i64 k ∧ Blk wr (bm + 1) 82 (quoC m e b1 o1 la ca b2 o2 lb cb vC bm) ∧ wr.ownsRow bm 89 2 vC (leas m (tabOf X) p k).length (clsV (leas m (tabOf X) p k)) ∧ MapC (k * m) wr bm (fmC m (tabOf X) p k) ∧ Below bm V2 wr)
  case atStart => exact ⟨0, .slice none 0 0, Nat.zero_le _, by omega, rfl, KQ.out, World.ownsRow_nil _ _ _ _, (KM.out.congr (fun x _ => fm_zero.symm)).more (Nat.zero_le _), Below.refl _ _⟩
  case round =>
    obtain ⟨k, vC, hk, hg, rfl, hq, ho, hm, hb⟩ := hrel
    have QW := Lib.hid hq
    have OW := Lib.hid ho
    have MW := Lib.hid hm
    have BW := Lib.hid hb
    have szw := hb.size
    have q5 := hq.cell 5
    simp [quoC] at q5
    clear hq ho hm hb
    by_cases hlt : k < m
    · have hkm : k * m ≤ 16 * 16 := Nat.mul_le_mul (by omega) hm'
      have hll := leas_len (m := m) (S := tabOf X) (p := p) k
      cases hd : donB m (tabOf X) p k k
      · have HD := Lib.hid hd
        have hrun := MW.out.look_no (x := k) (by omega) (fm_none hd)
        clear hd
        go_upto_region 10 with (fail)
        obtain ⟨w3, hw3⟩ : ∃ w3, wr.alloc (.cells #[.int .i64 0, .int .i64 0] 89) = w3 := ⟨_, rfl⟩
        have b3 : Below wr.heap.size wr w3 := by subst hw3; exact (Below.refl _ _).alloc (Nat.le_refl _) _
        rw [hw3]
        have B3 := Lib.hid (BW.out.trans (b3.mono (by omega)))
        have gs := TS.out _ B3.out
        have Q3 := Lib.hid (QW.out.next b3)
        have O3 := Lib.hid (own_nextK OW.out b3)
        have M3 := Lib.hid (MW.out.next b3)
        have z3 := b3.size
        clear b3 hw3 q5 hrun
        go_wp2_with (first
          | (refine wpList_load_row rfl 50 (.tmp 6) rfl g1 rfl _ (setP p) (0, 0) _ gs Tryz.underlying50 rfl hip ?_)
          | (go_at_call 108; refine (addClass_any (bm + 1) bm k (k * m) bm vC (leas m (tabOf X) p k) (fmC m (tabOf X) p k) p m e b1 o1 la ca b2 o2 lb cb (tabOf X) (tabOf Y) w HR0.out w3 (TB.out _ B3.out) (by omega) hlt (fun a b ha hb => R.sc ha hb) HPI.out.lt Q3.out O3.out M3.out (by omega) (by omega) (Nat.le_refl _) (Nat.le_succ _) (by omega)).mono ?_; rintro e4 w4 ⟨⟨v4, rfl⟩, hb4, vC', h1, h2, h3⟩; have Q4 := Lib.hid h1; have O4 := Lib.hid h2; have M4 := Lib.hid h3; have B4 := Lib.hid (B3.out.trans hb4); clear hb4 h1 h2 h3))
        go_roundg (m - (k + 1))
        case measure => omega
        case rel =>
          refine ⟨k + 1, vC', by omega, by omega, by go_num, Q4.out, by rw [leas_yes HD.out]; exact O4.out, ?_, B4.out⟩
          rw [Nat.succ_mul]
          exact M4.out.congr (fun x _ => R.fm_yes HPI.out hlt HD.out x)
      · have HD := Lib.hid hd
        have hrun := MW.out.look_yes (x := k) (by omega) (fm_some hd)
        clear hd
        go_wp2
        go_roundg (m - (k + 1))
        case measure => omega
        case rel =>
          refine ⟨k + 1, vC, by omega, by omega, by go_num, QW.out.alloc _, ?_, ?_, BW.out.alloc (by omega) _⟩
          · rw [leas_no HD.out]; exact own_nextK OW.out ((Below.refl _ _).alloc (Nat.le_refl _) _)
          · rw [fm_no HD.out]; exact (MW.out.next ((Below.refl _ _).alloc (Nat.le_refl _) _)).more (by rw [Nat.succ_mul]; omega)
    · have hkm : k = m := by omega
      subst hkm
      have hkm : k * k ≤ 16 * 16 := Nat.mul_le_mul hm' hm'
      have ZR := Lib.hid (TQ.out _ BW.out)
      have q0 := QW.out.cell 0
      have q1 := QW.out.cell 1
      have q2 := QW.out.cell 2
      have q3 := QW.out.cell 3
      have q4 := QW.out.cell 4
      have d0 := ZR.out.cell 0
      have d1 := ZR.out.cell 1
      have d2 := ZR.out.cell 2
      have d3 := ZR.out.cell 3
      have d4 := ZR.out.cell 4
      have d5 := ZR.out.cell 5
      have f0 := ZR.out.frozen 0
      have f1 := ZR.out.frozen 1
      have f2 := ZR.out.frozen 2
      have f3 := ZR.out.frozen 3
      have f4 := ZR.out.frozen 4
      have f5 := ZR.out.frozen 5
      simp [quoC] at q0 q1 q2 q3 q4 d0 d1 d2 d3 d4 d5
      have hvC : vC.oneCell' = true := by
        rcases OW.out.2 with ⟨rfl, _⟩ | ⟨g, cap, cur, rfl, _⟩ <;> rfl
      obtain ⟨AC, lC, cC, rfl⟩ : ∃ A l c, vC = .slice A l c := by
        rcases OW.out.2 with ⟨rfl, _⟩ | ⟨g, cap, cur, rfl, _⟩
        · exact ⟨none, 0, 0, rfl⟩
        · exact ⟨_, _, _, rfl⟩
      go_wp2
      refine bodyPost_ret (v := .tuple #[.agg (quoC k e b1 o1 la ca b2 o2 lb cb (.slice AC lC cC) bm), .bool true]) ?_ rfl ⟨_, rfl, ⟨.slice AC lC cC, bm, rfl, ?_, ?_, by omega⟩, ?_⟩
      · exact results_cell_flag Tryz.results71 _ _ (w.heap.size + 1) 82 _ _ _ rfl rfl (set6_blk ZR.out) Tryz.underlying82 rfl (by kernel_rfl)
      · exact own_base (set6_own OW.out (fun e => own_blk_ne OW.out ZR.out (by decide) e.symm)) (by omega)
      · exact (MW.out.heap (set6_heap (show bm ≠ w.heap.size + 1 by omega))).more (by omega)
      · exact set6_below (TB.out _ BW.out) (Nat.le_succ _)

end Go.Proofs.YtajoimopahibcaaGreat



/- The methods of a quotient. -/
namespace Go.Proofs.YtajoimopahibcaaGreat
open Go.RowKit Go.Shelf
set_option maxRecDepth 100000

theorem qn_size (a0 a1 a2 a3 a4 a5 : Value) (w : World) : (method 274 82 (.agg #[a0, a1, a2, a3, a4, a5]) "loop.example/finiterings/impl.size").run Tryz.prog w = .ok (177, (.agg #[a0, a1, a2, a3, a4, a5])) w := by kernel_rfl
theorem qn_one (a0 a1 a2 a3 a4 a5 : Value) (w : World) : (method 274 82 (.agg #[a0, a1, a2, a3, a4, a5]) "loop.example/finiterings/impl.one").run Tryz.prog w = .ok (176, (.agg #[a0, a1, a2, a3, a4, a5])) w := by kernel_rfl
theorem qn_element (a0 a1 a2 a3 a4 a5 : Value) (w : World) : (method 274 82 (.agg #[a0, a1, a2, a3, a4, a5]) "loop.example/finiterings/impl.element").run Tryz.prog w = .ok (175, (.agg #[a0, a1, a2, a3, a4, a5])) w := by kernel_rfl
theorem qn_number (a0 a1 a2 a3 a4 a5 : Value) (w : World) : (method 274 82 (.agg #[a0, a1, a2, a3, a4, a5]) "loop.example/finiterings/impl.number").run Tryz.prog w = .ok (88, (.agg #[a0, a1, a2, a3, a4, a5])) w := by kernel_rfl
theorem qn_sum (a0 a1 a2 a3 a4 a5 : Value) (w : World) : (method 274 82 (.agg #[a0, a1, a2, a3, a4, a5]) "loop.example/finiterings/impl.sum").run Tryz.prog w = .ok (103, .agg #[a0, a1, a2, a3]) w := by kernel_rfl
theorem qn_product (a0 a1 a2 a3 a4 a5 : Value) (w : World) : (method 274 82 (.agg #[a0, a1, a2, a3, a4, a5]) "loop.example/finiterings/impl.product").run Tryz.prog w = .ok (93, .agg #[a0, a1, a2, a3]) w := by kernel_rfl
theorem qn_ahead (a0 a1 a2 a3 a4 a5 : Value) (w : World) : (nilAhead 274 82 (.agg #[a0, a1, a2, a3, a4, a5]) "loop.example/finiterings/impl.number").run Tryz.prog w = .ok (some false) w := by kernel_rfl

/-- What the walk of 'made' asks of a making whose sums and products are another value's. -/
structure MakingP (w0 : World) (mv rv : Value) (fsize fone felement fnumber fsum fproduct : Nat) (m o : Nat) (El : Nat → Value) (SV PV : Nat → Nat → Value) (S P : Nat → Nat → Nat) (oneV : Value) : Prop where
  size : ∀ w, Below w0.heap.size w0 w → Calls Tryz.prog fsize #[mv] w fun e w' => e = .returned (.int .i64 m) ∧ Below w.heap.size w w'
  one : ∀ w, Below w0.heap.size w0 w → Calls Tryz.prog fone #[mv] w fun e w' => e = .returned oneV ∧ Below w.heap.size w w'
  oneNum : ∀ w, Below w0.heap.size w0 w → Calls Tryz.prog fnumber #[mv, oneV] w fun e w' => e = .returned (.int .i64 o) ∧ Below w.heap.size w w'
  element : ∀ w, Below w0.heap.size w0 w → ∀ a, a < m → Calls Tryz.prog felement #[mv, .int .i64 a] w fun e w' => e = .returned (El a) ∧ Below w.heap.size w w'
  sum : ∀ w, Below w0.heap.size w0 w → ∀ a b, a < m → b < m → Calls Tryz.prog fsum #[rv, El a, El b] w fun e w' => e = .returned (SV a b) ∧ Below w.heap.size w w'
  product : ∀ w, Below w0.heap.size w0 w → ∀ a b, a < m → b < m → Calls Tryz.prog fproduct #[rv, El a, El b] w fun e w' => e = .returned (PV a b) ∧ Below w.heap.size w w'
  sumNum : ∀ w, Below w0.heap.size w0 w → ∀ a b, a < m → b < m → Calls Tryz.prog fnumber #[mv, SV a b] w fun e w' => e = .returned (.int .i64 (S a b)) ∧ Below w.heap.size w w'
  prodNum : ∀ w, Below w0.heap.size w0 w → ∀ a b, a < m → b < m → Calls Tryz.prog fnumber #[mv, PV a b] w fun e w' => e = .returned (.int .i64 (P a b)) ∧ Below w.heap.size w w'

theorem cls_field (a b : Value) (w : World) : (Instr.field 89 (.agg #[a, b]) 0).run Tryz.prog w = .ok a w := by kernel_rfl
theorem clsV_get {l : List Nat} : ∀ {i : Nat}, i < l.length → (clsV l)[i * 2 + 1]? = some (.int .i64 (l.getD i 0 : Int)) := by
  intro i hi
  obtain ⟨k, hk⟩ : ∃ k, l.length = k := ⟨_, rfl⟩
  induction k generalizing l with
  | zero => omega
  | succ k ih =>
    obtain ⟨l', a, rfl⟩ : ∃ l' a, l = l' ++ [a] := by
      have hne : l ≠ [] := fun e => by subst e; simp at hk
      exact ⟨l.dropLast, l.getLast hne, (List.dropLast_concat_getLast hne).symm⟩
    have hl : l'.length = k := by simpa using hk
    rw [clsV_snoc]
    by_cases h2 : i < l'.length
    · rw [List.getElem?_append_left (by rw [clsV_len]; omega), ih h2 hl]
      simp [List.getElem?_append_left h2]
    · have e1 : i = l'.length := by simp at hi; omega
      subst e1
      rw [List.getElem?_append_right (by rw [clsV_len]; omega), clsV_len]
      have e2 : l'.length * 2 + 1 - l'.length * 2 = 1 := by omega
      rw [e2]
      simp

section
variable {m e b1 o1 la ca b2 o2 lb cb : Nat} {vC : Value} {bm : Nat}
set_option maxHeartbeats 2000000 in
theorem qSize_any (A : Option Addr) (n c : Nat) (w : World) : Calls Tryz.prog 177 #[.agg (quoC m e b1 o1 la ca b2 o2 lb cb (.slice A n c) bm)] w fun e w' => e = .returned (.int .i64 n) ∧ Below w.heap.size w w' := by
  unfold quoC
  go_enter Tryz.func177, Tryz.ntmps177
  go_wp2
  go_ret
  exact ⟨rfl, (Below.refl _ _).alloc (Nat.le_refl _) _⟩
set_option maxHeartbeats 2000000 in
theorem qOne_any (w : World) : Calls Tryz.prog 176 #[.agg (quoC m e b1 o1 la ca b2 o2 lb cb vC bm)] w fun e' w' => e' = .returned (.int .i64 e) ∧ Below w.heap.size w w' := by
  unfold quoC
  go_enter Tryz.func176, Tryz.ntmps176
  go_wp2
  go_ret
  exact ⟨rfl, (Below.refl _ _).alloc (Nat.le_refl _) _⟩
set_option maxHeartbeats 2000000 in
theorem qNumber_any {k x i l : Nat} {f : Nat → Option (Nat × Nat)} (w : World) (hM : MapC k w bm f) (hx : x ≤ 1000000) (hf : f x = some (i, l)) : Calls Tryz.prog 88 #[.agg (quoC m e b1 o1 la ca b2 o2 lb cb vC bm), .int .i64 x] w fun e' w' => e' = .returned (.int .i64 i) ∧ Below w.heap.size w w' := by
  obtain ⟨W, hW⟩ : ∃ W, w.alloc (.cells #[.int .i64 m, .int .i64 e, .slice (some ⟨b1, o1, none⟩) la ca, .slice (some ⟨b2, o2, none⟩) lb cb, vC, .map (some bm)] 82) = W := ⟨_, rfl⟩
  have b0 : Below w.heap.size w W := by subst hW; exact (Below.refl _ _).alloc (Nat.le_refl _) _
  have k0 : Blk W w.heap.size 82 #[.int .i64 m, .int .i64 e, .slice (some ⟨b1, o1, none⟩) la ca, .slice (some ⟨b2, o2, none⟩) lb cb, vC, .map (some bm)] := by subst hW; exact Blk.new w _ _
  have hrun := (hM.next b0).get hx hf
  have c5 := k0.cell 5
  simp at c5
  have hf0 := cls_field
  have HW := Lib.hid hW
  have B0 := Lib.hid b0
  unfold quoC
  clear hM hW b0 k0
  go_enter Tryz.func88, Tryz.ntmps88
  go_upto_region 1 with (fail)
  rw [HW.out]
  go_wp2
  go_ret
  exact ⟨rfl, B0.out⟩
set_option maxHeartbeats 2000000 in
theorem qElement_any {D i : Nat} {l : List Nat} (A : Option Addr) (c : Nat) (w : World) (hC : w.ownsRow D 89 2 (.slice A l.length c) l.length (clsV l)) (hi : i < l.length) : Calls Tryz.prog 175 #[.agg (quoC m e b1 o1 la ca b2 o2 lb cb (.slice A l.length c) bm), .int .i64 i] w fun e' w' => e' = .returned (.int .i64 (l.getD i 0 : Nat)) ∧ Below w.heap.size w w' := by
  obtain ⟨W, hW⟩ : ∃ W, w.alloc (.cells #[.int .i64 m, .int .i64 e, .slice (some ⟨b1, o1, none⟩) la ca, .slice (some ⟨b2, o2, none⟩) lb cb, .slice A l.length c, .map (some bm)] 82) = W := ⟨_, rfl⟩
  have b0 : Below w.heap.size w W := by subst hW; exact (Below.refl _ _).alloc (Nat.le_refl _) _
  have k0 : Blk W w.heap.size 82 #[.int .i64 m, .int .i64 e, .slice (some ⟨b1, o1, none⟩) la ca, .slice (some ⟨b2, o2, none⟩) lb cb, .slice A l.length c, .map (some bm)] := by subst hW; exact Blk.new w _ _
  rcases (own_nextK hC b0).2 with ⟨_, h0⟩ | ⟨g, cap, cur, e1, _, hb, _, _, hs, ht⟩
  · omega
  simp only [Value.slice.injEq, true_and] at e1
  obtain ⟨rfl, rfl⟩ := e1
  have hb' : Blk W g 89 cur := hb
  have ce : W.cell? ⟨g, i * 2 + 1, none⟩ = some (.int .i64 (l.getD i 0 : Int)) := by
    rw [hb'.cell, ← Array.getElem?_toList]
    have e5 : cur.toList[i * 2 + 1]? = (clsV l)[i * 2 + 1]? := by rw [← ht, List.getElem?_take, if_pos (by omega)]
    rw [e5, clsV_get hi]
  have c4 := k0.cell 4
  simp at c4
  have i0 : (0 : Int) ≤ (i : Int) := by omega
  have i1 : (i : Int) < (l.length : Int) := by omega
  obtain ⟨n, hn⟩ : ∃ n, l.length = n := ⟨_, rfl⟩
  obtain ⟨x, hx⟩ : ∃ x, l.getD i 0 = x := ⟨_, rfl⟩
  have HW := Lib.hid hW
  have B0 := Lib.hid b0
  unfold quoC
  rw [hn] at i1 c4 HW ⊢
  rw [hx] at ce ⊢
  clear hC hW b0 k0 hb hb' ht hn hx
  go_enter Tryz.func175, Tryz.ntmps175
  go_upto_region 1 with (fail)
  rw [HW.out]
  go_wp2
  go_ret
  exact ⟨rfl, B0.out⟩
end

end Go.Proofs.YtajoimopahibcaaGreat



/- The program's maker of rings, at a quotient. -/
namespace Go.Proofs.YtajoimopahibcaaGreat
open Go.RowKit
set_option maxRecDepth 100000

set_option maxHeartbeats 8000000 in
theorem madeQ_any (a0 a1 a2 a3 a4 a5 : Value) (m o : Nat) (El : Nat → Value) (SV PV : Nat → Nat → Value) (S P : Nat → Nat → Nat) (oneV : Value) (hm : 1 ≤ m) (hm' : m ≤ 16) (w : World)
    (hM : MakingP w (.agg #[a0, a1, a2, a3, a4, a5]) (.agg #[a0, a1, a2, a3]) 177 176 175 88 103 93 m o El SV PV S P oneV) :
    Calls Tryz.prog 72 #[.iface 82 (.agg #[a0, a1, a2, a3, a4, a5])] w fun e w' => ∃ v, e = .returned v ∧ NewRing w.heap.size w' v m o (m * m) (tabZ m S (m * m)) (tabZ m P (m * m)) ∧ Below w.heap.size w w' := by
  obtain ⟨i0, hi, hz0, hz1, hz2⟩ := info_parts int_info
  obtain ⟨s1, s2, s3, s4⟩ := sqI hm'
  have S3 := Lib.hid s3
  have MK := Lib.hid hM
  clear s3 hM
  have hmm : m * m ≤ 256 := s4
  have q1 := qn_size a0 a1 a2 a3 a4 a5
  have q2 := qn_one a0 a1 a2 a3 a4 a5
  have q3 := qn_element a0 a1 a2 a3 a4 a5
  have q4 := qn_number a0 a1 a2 a3 a4 a5
  have q5 := qn_sum a0 a1 a2 a3 a4 a5
  have q6 := qn_product a0 a1 a2 a3 a4 a5
  have q7 := qn_ahead a0 a1 a2 a3 a4 a5
  have b0 : Below w.heap.size w (w.alloc (.cells #[.int .i64 0, .int .i64 0, .slice none 0 0, .slice none 0 0] 25)) := (Below.refl _ _).alloc (Nat.le_refl _) _
  have k0 := Blk.new w 25 #[.int .i64 0, .int .i64 0, .slice none 0 0, .slice none 0 0]
  have K0 := Lib.hid k0
  have B0 := Lib.hid b0
  clear k0 b0
  go_enter Tryz.func72, Tryz.ntmps72
  go_wp2_with (go_at_call 177; refine (MK.out.size _ B0.out).mono ?_; rintro e1 w1 ⟨rfl, hb1⟩)
  have K1 := Lib.hid (K0.out.below hb1 K0.out.lt)
  have B1 := Lib.hid (B0.out.trans (hb1.mono (by simp)))
  have hs1 := hb1.size
  clear hb1
  have hmz : IntKind.i64.wrap ((m : Int) * m) = (m : Int) * m := IntWalk.i64_in _ (by omega)
  refine wp_region_makers 18 madeMk (madePhi (w.heap.size + 1) m) (madeSh m) (fun i => if i = 17 then .pointer (some ⟨0, 0, none⟩) else .slice (some ⟨0, 0, none⟩) 0 (m * m)) probe (by kernel_rfl) (by kernel_rfl) madePhi_stable (fun i v x _ => madeSh_of i v x)
    (fun i _ => by unfold madeSh; split <;> simp) ?_
  intro W hW vs hvs
  obtain ⟨g1, e1⟩ : ∃ g, vs 11 = .slice (some ⟨g, 0, none⟩) 0 (m * m) := hvs 11 rfl
  obtain ⟨g2, e2⟩ : ∃ g, vs 15 = .slice (some ⟨g, 0, none⟩) 0 (m * m) := hvs 15 rfl
  obtain ⟨bx, e3⟩ : ∃ g, vs 17 = .pointer (some ⟨g, 0, none⟩) := hvs 17 rfl
  have BW := Lib.hid (B1.out.trans (hW.mono B1.out.size))
  have cW : ∃ x, extC W x := ⟨W, extC_of (Below.refl _ _)⟩
  have big : ∀ x, extC W x → w.heap.size + 1 ≤ x.heap.size := fun x ⟨u, hu⟩ => by rw [hu]; exact Nat.le_trans (Nat.le_trans K1.out.lt hW.size) (ext_size W u)
  simp only [List.take_succ_cons, List.take_zero, List.drop_succ_cons, List.drop_zero]
  refine wpV_quiet cW 11 0 _ _ (by decide) (by decide) ?_
  simp only [List.take_succ_cons, List.take_zero, List.drop_succ_cons, List.drop_zero]
  repeat (go_big_quiet_step (first
      | (go_at_call 176; with_reducible refine calls_ext (MK.out.one _ ?_); exact BW.out.trans ((ext_below _ _).mono BW.out.size))
      | (go_at_call 88; with_reducible refine calls_ext (MK.out.oneNum _ ?_); exact BW.out.trans ((ext_below _ _).mono BW.out.size))))
  refine wpQuiet_nil ?_
  refine wpV_make' rfl rfl (fun x hx => makesAt_mono (makes_row _ _ 0 (m * m) _ _ rfl rfl (by rw [← S3.out]; rfl) (Nat.zero_le _) (by omega) x) fun v x' ⟨g, h1, h2, h3⟩ => ⟨g, h1, Nat.le_trans (big x hx) h2, h3⟩) ?_
  rw [e1]
  go_simp
  refine wpV_quiet cW 3 _ _ _ (by decide) (by decide) ?_
  simp only [List.take_succ_cons, List.take_zero, List.drop_succ_cons, List.drop_zero]
  repeat (go_big_quiet_step (fail))
  refine wpQuiet_nil ?_
  refine wpV_make' rfl rfl (fun x hx => makesAt_mono (makes_row _ _ 0 (m * m) _ _ rfl rfl (by rw [← S3.out]; rfl) (Nat.zero_le _) (by omega) x) fun v x' ⟨g, h1, h2, h3⟩ => ⟨g, h1, Nat.le_trans (big x hx) h2, h3⟩) ?_
  rw [e2]
  go_simp
  refine wpV_quiet cW 1 _ _ _ (by decide) (by decide) ?_
  simp only [List.take_succ_cons, List.take_zero, List.drop_succ_cons, List.drop_zero]
  repeat (go_big_quiet_step (fail))
  refine wpQuiet_nil ?_
  refine wpV_make' rfl rfl (fun x hx => makesAt_mono (makes_box rfl x) fun v x' ⟨g, h1, h2, h3⟩ => ⟨g, h1, Nat.le_trans (big x hx) h2, h3⟩) ?_
  rw [e3]
  go_simp
  refine wpV_nil ?_
  intro w2 hb2 hfacts hapart
  have n12 : g1 ≠ g2 := fun e => hapart 11 15 (by omega) (by omega) (by omega) rfl rfl g1 (by rw [e1]; rfl) (by rw [e2, e]; rfl)
  obtain ⟨d1, r1⟩ : w.heap.size + 1 ≤ g1 ∧ Blk w2 g1 3 (madeCells #[.int .i64 0] (m * m)) := by
    obtain ⟨g, h1, h2, h3⟩ := hfacts 11 (by omega) rfl
    rw [e1] at h1
    simp at h1
    subst h1
    exact ⟨h2, h3⟩
  obtain ⟨d2, r2⟩ : w.heap.size + 1 ≤ g2 ∧ Blk w2 g2 3 (madeCells #[.int .i64 0] (m * m)) := by
    obtain ⟨g, h1, h2, h3⟩ := hfacts 15 (by omega) rfl
    rw [e2] at h1
    simp at h1
    subst h1
    exact ⟨h2, h3⟩
  obtain ⟨d3, r3⟩ : w.heap.size + 1 ≤ bx ∧ Blk w2 bx 25 #[.int .i64 0, .int .i64 0, .slice none 0 0, .slice none 0 0] := by
    obtain ⟨g, h1, h2, h3⟩ := hfacts 17 (by omega) rfl
    rw [e3] at h1
    simp at h1
    subst h1
    exact ⟨h2, h3⟩
  clear hfacts hapart hvs e1 e2 e3
  have nb1 : g1 ≠ bx := blk_ne (t := 3) (t' := 25) r1 r3 (by decide)
  have nb2 : g2 ≠ bx := blk_ne (t := 3) (t' := 25) r2 r3 (by decide)
  have c0 := r3.cell 0
  have c1 := r3.cell 1
  have c2 := r3.cell 2
  have c3 := r3.cell 3
  have f0 := r3.frozen 0
  have f1 := r3.frozen 1
  have f2 := r3.frozen 2
  have f3 := r3.frozen 3
  simp at c0 c1 c2 c3
  go_wp2_with (fail)
  obtain ⟨V, hV⟩ : ∃ V, store4 w2 bx (.int .i64 m) (.int .i64 o) (.slice (some ⟨g1, 0, none⟩) 0 (m * m)) (.slice (some ⟨g2, 0, none⟩) 0 (m * m)) = V := ⟨_, rfl⟩
  have hV' := hV
  unfold store4 at hV'
  have gv : Grow (w.heap.size + 1) V bx m o (.slice (some ⟨g1, 0, none⟩) 0 (m * m)) (.slice (some ⟨g2, 0, none⟩) 0 (m * m)) 0 0 [] [] := by
    subst hV
    exact ⟨store4_blk r3, d3, store4_own (own_of_blk r1 d1 (by omega)) (by simpa [Value.ownBlock] using nb1), store4_own (own_of_blk r2 d2 (by omega)) (by simpa [Value.ownBlock] using nb2), by simpa [Value.ownBlock] using nb1, by simpa [Value.ownBlock] using nb2, by
      intro g h1 h2
      simp [Value.ownBlock] at h1 h2
      omega⟩
  have bv : Below w1.heap.size w1 w2 := hb2
  have bV : Below (w.heap.size + 1) w1 V := by subst hV; exact store4_below (bv.mono K1.out.lt) d3
  rw [hV']
  clear hV hV' c0 c1 c2 c3 f0 f1 f2 f3 r1 r2 r3 hb2 bv BW cW big hW
  have GV := Lib.hid gv
  have BV := Lib.hid bV
  clear gv bV
  go_loopw [29] (fun i wr => ∃ (a : Nat) (v2 v3 : Value), a ≤ m ∧ i = .int .i64 a ∧ Grow (w.heap.size + 1) wr bx m o v2 v3 (a * m) (a * m) (tabZ m S (a * m)) (tabZ m P (a * m)) ∧ Below (w.heap.size + 1) V wr) (fun i _ => m - (intOf i).toNat)
  case atStart => exact ⟨0, _, _, Nat.zero_le _, rfl, by simpa [tabZ] using GV.out, Below.refl _ _⟩
  case round =>
    obtain ⟨a, v2, v3, ha, rfl, hg, hb⟩ := hrel
    have GR := Lib.hid hg
    have BR := Lib.hid hb
    clear hg hb
    by_cases hlt : a < m
    · have hBw : Below w.heap.size w wr := B1.out.trans ((BV.out.trans BR.out).mono (by omega))
      go_wp2_with (go_at_call 175; refine (MK.out.element _ hBw a hlt).mono ?_; rintro e3 w3 ⟨rfl, hb3⟩)
      have G3 := Lib.hid (GR.out.keep hb3)
      have B3 := Lib.hid (BR.out.trans (hb3.mono (Nat.le_of_lt (Nat.lt_of_le_of_lt GR.out.hD GR.out.box.lt))))
      clear hb3 hBw
      go_loopw [36] (fun i wr => ∃ (b : Nat) (v2 v3 : Value), b ≤ m ∧ i = .int .i64 b ∧ Grow (w.heap.size + 1) wr bx m o v2 v3 (a * m + b) (a * m + b) (tabZ m S (a * m + b)) (tabZ m P (a * m + b)) ∧ Below (w.heap.size + 1) V wr) (fun i _ => m - (intOf i).toNat)
      case atStart => exact ⟨0, _, _, Nat.zero_le _, rfl, G3.out, B3.out⟩
      case round =>
        obtain ⟨b, v2, v3, hb, rfl, hg, hbl⟩ := hrel
        have GR := Lib.hid hg
        have BR := Lib.hid hbl
        clear hg hbl
        by_cases hlt2 : b < m
        · have hBw : Below w.heap.size w wr := B1.out.trans ((BV.out.trans BR.out).mono (by omega))
          go_wp2_with (go_at_call 175; refine (MK.out.element _ hBw b hlt2).mono ?_; rintro e4 wd ⟨rfl, hb4⟩)
          have gd := GR.out.keep hb4
          have bd : Below w.heap.size w wd := hBw.trans (hb4.mono hBw.size)
          have GD := Lib.hid gd
          have BD := Lib.hid bd
          have BE := Lib.hid (BR.out.trans (hb4.mono (Nat.le_of_lt (Nat.lt_of_le_of_lt GR.out.hD GR.out.box.lt))))
          have hlx : bx < wd.heap.size := gd.box.lt
          have hq0 : w.heap.size ≤ wd.heap.size := bd.size
          have hq : w.heap.size ≤ wd.heap.size := bd.size
          have hqD : w.heap.size + 1 ≤ wd.heap.size := Nat.le_of_lt (Nat.lt_of_le_of_lt gd.hD gd.box.lt)
          clear hb4 hBw gd bd
          have hk0 : a * m + b < m * m := by
            have : (a + 1) * m ≤ m * m := Nat.mul_le_mul_right _ hlt
            rw [Nat.succ_mul] at this
            omega
          have hkk : (a * m + b) + 1 ≤ maxLen := by unfold maxLen; omega
          have hbt : ((a * m + b) + 1) * 8 ≤ 140737488355328 := by omega
          have GWA := Lib.hid GD.out
          have nnA : v2.ownBlock ≠ some bx := GD.out.n2
          go_wp2_with (fail)
          refine wp_region_makers 12 (fun i => i == 11) (appPhi (w.heap.size + 1) (.int .i64 (S a b : Nat))) appSh (fun _ => .slice (some ⟨0, 0, none⟩) 1 1) probe (by kernel_rfl) (by kernel_rfl) appPhi_stable (fun i v x _ => appSh_of i v x) (fun _ _ => ⟨0, rfl⟩) ?_
          intro W1 hW1 vsA hvsA
          obtain ⟨h1A, e1A⟩ : ∃ g, vsA 11 = .slice (some ⟨g, 0, none⟩) 1 1 := hvsA 11 rfl
          have BWA := Lib.hid (BD.out.trans (hW1.mono hq))
          have cWA : ∃ x, extC W1 x := ⟨W1, extC_of (Below.refl _ _)⟩
          have bigA : ∀ x, extC W1 x → w.heap.size + 1 ≤ x.heap.size := fun x ⟨u, hu⟩ => by rw [hu]; exact Nat.le_trans (Nat.le_trans hqD hW1.size) (ext_size W1 u)
          have cA := (GD.out.keep hW1).box.cell 2
          simp at cA
          simp only [List.take_succ_cons, List.take_zero, List.drop_succ_cons, List.drop_zero]
          refine wpV_quiet cWA 11 0 _ _ (by decide) (by decide) ?_
          simp only [List.take_succ_cons, List.take_zero, List.drop_succ_cons, List.drop_zero]
          repeat (go_big_quiet_step (first
              | (go_at_call 103; with_reducible refine calls_ext (MK.out.sum _ ?_ a b hlt hlt2); exact BWA.out.trans ((ext_below _ _).mono BWA.out.size))
              | (go_at_call 88; with_reducible refine calls_ext (MK.out.sumNum _ ?_ a b hlt hlt2); exact BWA.out.trans ((ext_below _ _).mono BWA.out.size))))
          refine wpQuiet_nil ?_
          refine wpV_make' rfl rfl (fun x hx => makesAt_mono (makes_one _ _ rfl rfl x) fun v x' ⟨g, p1, p2, p3⟩ => ⟨g, p1, Nat.le_trans (bigA x hx) p2, p3⟩) ?_
          rw [e1A]
          go_simp
          refine wpV_nil ?_
          intro wm hbA hfactsA _
          obtain ⟨gA, q1A, _, r1A⟩ := hfactsA 11 (by omega) rfl
          have egA : gA = h1A := by rw [e1A] at q1A; simp at q1A; exact q1A.symm
          subst egA
          have gkA := GD.out.keep hbA
          refine wpList_append_lies _ rfl _ _ _ rfl (w.heap.size + 1) 3 i0 _ 1 8 Tryz.underlying23 hi hz0 hz1 hz2 rfl (by omega) v2 (a * m + b) _ rfl gkA.o2 ⟨gA, 0, none⟩ 1 1 _ rfl rfl (World.news_of_block r1A) (by simp [Value.oneCell']) (by omega) hkk hbt (Nat.le_trans hqD hbA.size) _ rfl ?_
          intro gg cap w7 hownA hgrowA hatA _
          have ffA : w7.frozen? ⟨bx, 2, none⟩ = false := by rw [hgrowA.frozen_far _ gkA.box.lt (Ne.symm nnA)]; exact gkA.box.frozen 2
          have ccA : w7.cell? ⟨bx, 2, none⟩ = some v2 := by rw [hgrowA.cell_far _ gkA.box.lt (Ne.symm nnA)]; exact gkA.box.cell 2
          obtain ⟨gpA, bpA⟩ := gkA.put2 hownA hgrowA hatA
          go_wp2_with (fail)
          have GP0 := Lib.hid gpA
          have BP0 := Lib.hid (BE.out.trans ((hbA.mono hqD).trans bpA))
          clear gpA bpA hownA hgrowA hatA ffA ccA gkA hbA hfactsA q1A r1A cA nnA GWA BWA cWA bigA hW1 hvsA
          obtain ⟨we, hwe⟩ : ∃ we, w7.setCell ⟨bx, 2, none⟩ (.slice (some ⟨gg, 0, none⟩) (a * m + b + 1) cap) = we := ⟨_, rfl⟩
          rw [hwe] at GP0 BP0 ⊢
          clear hwe
          have GP := Lib.hid GP0.out
          have BP := Lib.hid (B1.out.trans ((BV.out.trans BP0.out).mono (Nat.le_succ _)))
          have hq3 : w.heap.size ≤ we.heap.size := BP.out.size
          have hqD3 : w.heap.size + 1 ≤ we.heap.size := Nat.le_of_lt (Nat.lt_of_le_of_lt GP.out.hD GP.out.box.lt)
          have GWB := Lib.hid GP.out
          have nnB : v3.ownBlock ≠ some bx := GP.out.n3
          go_wp2_with (fail)
          refine wp_region_makers 12 (fun i => i == 11) (appPhi (w.heap.size + 1) (.int .i64 (P a b : Nat))) appSh (fun _ => .slice (some ⟨0, 0, none⟩) 1 1) probe (by kernel_rfl) (by kernel_rfl) appPhi_stable (fun i v x _ => appSh_of i v x) (fun _ _ => ⟨0, rfl⟩) ?_
          intro W2 hW2 vsB hvsB
          obtain ⟨h1B, e1B⟩ : ∃ g, vsB 11 = .slice (some ⟨g, 0, none⟩) 1 1 := hvsB 11 rfl
          have BWB := Lib.hid (BP.out.trans (hW2.mono hq3))
          have cWB : ∃ x, extC W2 x := ⟨W2, extC_of (Below.refl _ _)⟩
          have bigB : ∀ x, extC W2 x → w.heap.size + 1 ≤ x.heap.size := fun x ⟨u, hu⟩ => by rw [hu]; exact Nat.le_trans (Nat.le_trans hqD3 hW2.size) (ext_size W2 u)
          have cB := (GP.out.keep hW2).box.cell 3
          simp at cB
          simp only [List.take_succ_cons, List.take_zero, List.drop_succ_cons, List.drop_zero]
          refine wpV_quiet cWB 11 0 _ _ (by decide) (by decide) ?_
          simp only [List.take_succ_cons, List.take_zero, List.drop_succ_cons, List.drop_zero]
          repeat (go_big_quiet_step (first
              | (go_at_call 93; with_reducible refine calls_ext (MK.out.product _ ?_ a b hlt hlt2); exact BWB.out.trans ((ext_below _ _).mono BWB.out.size))
              | (go_at_call 88; with_reducible refine calls_ext (MK.out.prodNum _ ?_ a b hlt hlt2); exact BWB.out.trans ((ext_below _ _).mono BWB.out.size))))
          refine wpQuiet_nil ?_
          refine wpV_make' rfl rfl (fun x hx => makesAt_mono (makes_one _ _ rfl rfl x) fun v x' ⟨g, p1, p2, p3⟩ => ⟨g, p1, Nat.le_trans (bigB x hx) p2, p3⟩) ?_
          rw [e1B]
          go_simp
          refine wpV_nil ?_
          intro wn hbB hfactsB _
          obtain ⟨gB, q1B, _, r1B⟩ := hfactsB 11 (by omega) rfl
          have egB : gB = h1B := by rw [e1B] at q1B; simp at q1B; exact q1B.symm
          subst egB
          have gkB := GP.out.keep hbB
          refine wpList_append_lies _ rfl _ _ _ rfl (w.heap.size + 1) 3 i0 _ 1 8 Tryz.underlying23 hi hz0 hz1 hz2 rfl (by omega) v3 (a * m + b) _ rfl gkB.o3 ⟨gB, 0, none⟩ 1 1 _ rfl rfl (World.news_of_block r1B) (by simp [Value.oneCell']) (by omega) hkk hbt (Nat.le_trans hqD3 hbB.size) _ rfl ?_
          intro g9 cap9 w8 hownB hgrowB hatB _
          have ffB : w8.frozen? ⟨bx, 3, none⟩ = false := by rw [hgrowB.frozen_far _ gkB.box.lt (Ne.symm nnB)]; exact gkB.box.frozen 3
          have ccB : w8.cell? ⟨bx, 3, none⟩ = some v3 := by rw [hgrowB.cell_far _ gkB.box.lt (Ne.symm nnB)]; exact gkB.box.cell 3
          obtain ⟨gpB, bpB⟩ := gkB.put3 hownB hgrowB hatB
          go_wp2_with (fail)
          have GQ := Lib.hid gpB
          have BQ := Lib.hid (BP0.out.trans ((hbB.mono hqD3).trans bpB))
          clear gpB bpB hownB hgrowB hatB ffB ccB gkB hbB hfactsB q1B r1B cB nnB GWB BWB cWB bigB hW2 hvsB
          obtain ⟨wf, hwf⟩ : ∃ wf, w8.setCell ⟨bx, 3, none⟩ (.slice (some ⟨g9, 0, none⟩) (a * m + b + 1) cap9) = wf := ⟨_, rfl⟩
          rw [hwf] at GQ BQ ⊢
          clear hwf
          go_wp2
          go_roundw
          case rel => exact ⟨b + 1, _, _, by omega, by go_num, by
            have := GQ.out
            rw [← tabZ_at hlt2, ← tabZ_at hlt2] at this
            exact this, BQ.out⟩
          case measure => simp [intOf]; omega
        · have hbm : b = m := by omega
          subst hbm
          go_wp2
          go_roundw
          case rel => exact ⟨a + 1, v2, v3, by omega, by go_num, by rw [Nat.succ_mul]; exact GR.out, BR.out⟩
          case measure => simp [intOf]; omega
    · have ham : a = m := by omega
      subst ham
      have hpos : 0 < a * a := Nat.mul_pos hm hm
      obtain ⟨h2, cap2, e2, _, _⟩ := GR.out.o2.form hpos
      obtain ⟨h3, cap3, e3, _, _⟩ := GR.out.o3.form hpos
      subst e2 e3
      have ZR := Lib.hid ((K1.out.below (BV.out) (Nat.lt_succ_self _)).below BR.out (Nat.lt_succ_self _))
      have c0 := GR.out.box.cell 0
      have c1 := GR.out.box.cell 1
      have c2 := GR.out.box.cell 2
      have c3 := GR.out.box.cell 3
      have d0 := ZR.out.cell 0
      have d1 := ZR.out.cell 1
      have d2 := ZR.out.cell 2
      have d3 := ZR.out.cell 3
      have f0 := ZR.out.frozen 0
      have f1 := ZR.out.frozen 1
      have f2 := ZR.out.frozen 2
      have f3 := ZR.out.frozen 3
      simp at c0 c1 c2 c3 d0 d1 d2 d3
      go_wp2
      refine bodyPost_ret (v := .agg #[.int .i64 a, .int .i64 o, .slice (some ⟨h2, 0, none⟩) (a * a) cap2, .slice (some ⟨h3, 0, none⟩) (a * a) cap3]) ?_ rfl ⟨_, rfl, ?_, ?_⟩
      · exact results_cell_row Tryz.results72 _ _ w.heap.size 25 _ (0, 0) _ rfl (store4_blk ZR.out) Tryz.underlying25 rfl (by kernel_rfl)
      · exact (GR.out.result ZR.out (by decide)).mono (Nat.le_succ _)
      · exact store4_below (B1.out.trans ((BV.out.trans BR.out).mono (Nat.le_succ _))) (Nat.le_refl _)

end Go.Proofs.YtajoimopahibcaaGreat



/- The ring of a quotient, as the program makes it. -/
namespace Go.Proofs.YtajoimopahibcaaGreat
open Go.RowKit Go.Shelf
set_option maxRecDepth 100000

theorem tab_quo {m n : Nat} {S : Nat → Nat} {p : Nat → Bool} {T : Nat → Nat} (hn : qN m S p = n) : tabZ n (fun a b => namK m S p m (T (leaN m S p a * m + leaN m S p b))) (n * n) = numL (n * n) (quoF m S p T) := by
  subst hn; rfl

set_option maxHeartbeats 4000000 in
theorem made_quo {m e b1 o1 la ca b2 o2 lb cb : Nat} {S P : Nat → Nat} {p : Nat → Bool} {D : Nat} {mv : Value} {w : World} (hQ : QSt m e b1 o1 la ca b2 o2 lb cb S p D w mv) (hr : RingAt w m e b1 o1 la ca b2 o2 lb cb S P) (R : RTab m S P e) (hp : Idl m S P p) :
    Calls Tryz.prog 72 #[.iface 82 mv] w fun e' w' => ∃ v, e' = .returned v ∧ NewRing w.heap.size w' v (qN m S p) (namK m S p m e) (qN m S p * qN m S p) (numL (qN m S p * qN m S p) (quoF m S p S)) (numL (qN m S p * qN m S p) (quoF m S p P)) ∧ Below w.heap.size w w' := by
  obtain ⟨vC, bm, rfl, hC, hM, _⟩ := hQ
  obtain ⟨A, c, rfl⟩ : ∃ A c, vC = .slice A (leas m S p m).length c := by
    rcases hC.2 with ⟨h1, h2⟩ | ⟨g, cap, cur, h1, _⟩
    · exact ⟨none, 0, by rw [h1, h2]⟩
    · exact ⟨_, _, h1⟩
  have nm : qN m S p ≤ m := cnt_le
  have n1 := R.cnt_pos hp
  have hm' := hr.hm'
  have fmx : ∀ {x : Nat}, x < m → fmC m S p m x = some (namK m S p m x, ((leas m S p m)[namK m S p m x]?).getD 0) := fun hx => fm_some (R.don_all hp hx)
  have num : ∀ W, Below w.heap.size w W → ∀ x, x < m → Calls Tryz.prog 88 #[.agg (quoC m e b1 o1 la ca b2 o2 lb cb (.slice A (leas m S p m).length c) bm), .int .i64 x] W fun e' w' => e' = .returned (.int .i64 (namK m S p m x : Nat)) ∧ Below W.heap.size W w' := fun W hW x hx => qNumber_any W (hM.next hW) (by omega) (fmx hx)
  have lg : ∀ i, (leas m S p m).getD i 0 = leaN m S p i := fun i => by unfold leaN; simp
  have hMk : MakingP w (.agg #[.int .i64 m, .int .i64 e, .slice (some ⟨b1, o1, none⟩) la ca, .slice (some ⟨b2, o2, none⟩) lb cb, .slice A (leas m S p m).length c, .map (some bm)]) (.agg #[.int .i64 m, .int .i64 e, .slice (some ⟨b1, o1, none⟩) la ca, .slice (some ⟨b2, o2, none⟩) lb cb]) 177 176 175 88 103 93
      (qN m S p) (namK m S p m e) (fun a => .int .i64 (leaN m S p a : Nat)) (fun a b => .int .i64 (S (leaN m S p a * m + leaN m S p b) : Nat)) (fun a b => .int .i64 (P (leaN m S p a * m + leaN m S p b) : Nat)) (fun a b => namK m S p m (S (leaN m S p a * m + leaN m S p b))) (fun a b => namK m S p m (P (leaN m S p a * m + leaN m S p b))) (.int .i64 e) :=
    { size := fun W hW => qSize_any A (leas m S p m).length c W
      one := fun W hW => qOne_any W
      oneNum := fun W hW => num W hW e R.he
      element := fun W hW a ha => by
        have := qElement_any (m := m) (e := e) (b1 := b1) (o1 := o1) (la := la) (ca := ca) (b2 := b2) (o2 := o2) (lb := lb) (cb := cb) (bm := bm) A c W (own_nextK hC hW) (i := a) ha
        rw [lg] at this
        exact this
      sum := fun W hW a b ha hb => sum_any _ _ m e b1 o1 la ca b2 o2 lb cb S P W (hr.next hW) (lea_lt ha) (lea_lt hb)
      product := fun W hW a b ha hb => product_any _ _ m e b1 o1 la ca b2 o2 lb cb S P W (hr.next hW) (lea_lt ha) (lea_lt hb)
      sumNum := fun W hW a b ha hb => num W hW _ (R.sc (lea_lt ha) (lea_lt hb))
      prodNum := fun W hW a b ha hb => num W hW _ (R.pc (lea_lt ha) (lea_lt hb)) }
  have := madeQ_any _ _ _ _ _ _ (qN m S p) (namK m S p m e) _ _ _ _ _ _ n1 (by omega) w hMk
  rw [tab_quo rfl, tab_quo rfl] at this
  exact this

end Go.Proofs.YtajoimopahibcaaGreat



/- PushIdeal of the program. -/
namespace Go.Proofs.YtajoimopahibcaaGreat
open Go.RowKit Go.Shelf
set_option maxRecDepth 100000

theorem isId_val {n o : Int} {A B C : Option Addr} {la ca lb cb len cap : Nat} {X Y L : List Int} {w : World} {b : Bool} (h2 : isIdB n o X Y L = b) (hX : Ints w w.heap.size A la X) (hY : Ints w w.heap.size B lb Y) (hL : Ints w w.heap.size C len L) (hla : la ≤ 9223372036854775807) (hlb : lb ≤ 9223372036854775807) (hlen : len ≤ 9223372036854775807) (hca : la ≤ ca) (hcb : lb ≤ cb) :
    Calls Tryz.prog 14 #[.agg #[.int .i64 n, .int .i64 o, .slice A la ca, .slice B lb cb], .slice C len cap] w fun e' w' => e' = .returned (.bool b) ∧ Below w.heap.size w w' := h2 ▸ isId_any n o A B C la ca lb cb len cap X Y L w hX hY hL hla hlb hlen hca hcb

theorem QSt.next {m e b1 o1 la ca b2 o2 lb cb : Nat} {S : Nat → Nat} {p : Nat → Bool} {D : Nat} {mv : Value} {w w' : World} (h : QSt m e b1 o1 la ca b2 o2 lb cb S p D w mv) (hb : Below w.heap.size w w') : QSt m e b1 o1 la ca b2 o2 lb cb S p D w' mv := by
  obtain ⟨vC, bm, e1, h1, h2, h3⟩ := h
  exact ⟨vC, bm, e1, own_nextK h1 hb, h2.next hb, h3⟩
/-- The box that a quotient is put into. -/
theorem z6_info {cs : Array Value} (h : cs.size = 6) : (Tryz.prog.info? 82).map (·.size) = some cs.size := by rw [h]; kernel_rfl

def pqMk (i : Nat) : Bool := i == 2 || i == 4
structure PqPhi (qn nE D : Nat) (Z : List Int) (i : Nat) (v : Value) (w : World) : Prop where
  p2 : i = 2 → ∃ A c B d, v = .agg #[.int .i64 (qn : Int), .int .i64 (nE : Int), .slice A (qn * qn) c, .slice B (qn * qn) d]
  p4 : i = 4 → SliceOut D w v Z
structure PqSh (qn nE : Nat) (i : Nat) (v : Value) : Prop where
  p2 : i = 2 → ∃ A c B d, v = .agg #[.int .i64 (qn : Int), .int .i64 (nE : Int), .slice A (qn * qn) c, .slice B (qn * qn) d]
  p4 : i = 4 → ∃ A l c, v = .slice A l c
theorem PqPhi_stable {qn nE D : Nat} {Z : List Int} (i : Nat) (v : Value) (w w' : World) (h : PqPhi qn nE D Z i v w) (hb : Below w.heap.size w w') : PqPhi qn nE D Z i v w' := ⟨h.p2, fun e => (h.p4 e).next hb⟩
theorem PqSh_of {qn nE D : Nat} {Z : List Int} (i : Nat) (v : Value) (w : World) (h : PqPhi qn nE D Z i v w) : PqSh qn nE i v := ⟨h.p2, fun e => by obtain ⟨A, l, c, h1, _⟩ := h.p4 e; exact ⟨A, l, c, h1⟩⟩
def pq0 (qn nE i : Nat) : Value := if i = 2 then .agg #[.int .i64 (qn : Int), .int .i64 (nE : Int), .slice none (qn * qn) 0, .slice none (qn * qn) 0] else .slice none 0 0
theorem PqSh_zero {qn nE : Nat} (i : Nat) : PqSh qn nE i (pq0 qn nE i) := ⟨fun e => by subst e; exact ⟨none, 0, none, 0, rfl⟩, fun e => by subst e; exact ⟨none, 0, 0, rfl⟩⟩

set_option maxHeartbeats 8000000 in
theorem psh_any (n o : Int) (A B C D : Option Addr) (la ca lb cb len len' cap cap' : Nat) (X Y L K : List Int) (w : World) (hX : Ints w w.heap.size A la X) (hY : Ints w w.heap.size B lb Y) (hL : Ints w w.heap.size C len L) (hK : Ints w w.heap.size D len' K) (hla : la ≤ 9223372036854775807) (hlb : lb ≤ 9223372036854775807) (hlen : len ≤ 9223372036854775807) (hlen' : len' ≤ 9223372036854775807) (hca : la ≤ ca) (hcb : lb ≤ cb) :
    Calls Tryz.prog 36 #[.agg #[.int .i64 n, .int .i64 o, .slice A la ca, .slice B lb cb], .slice C len cap, .slice D len' cap'] w fun e' w' => ∃ v, e' = .returned (.tuple #[v, .bool (twoI n o X Y L K)]) ∧ SliceOut w.heap.size w' v (pshL n o X Y L K) ∧ Below w.heap.size w w' := by
  obtain ⟨W, hW⟩ : ∃ W, w.alloc (.cells #[.int .i64 n, .int .i64 o, .slice A la ca, .slice B lb cb] 25) = W := ⟨_, rfl⟩
  have k0 : Blk W w.heap.size 25 #[.int .i64 n, .int .i64 o, .slice A la ca, .slice B lb cb] := by
    subst hW; exact Blk.new w _ _
  have b0 : Below w.heap.size w W := by
    subst hW; exact (Below.refl _ _).alloc (Nat.le_refl _) _
  obtain ⟨c0, c1, c2, c3⟩ := blk4 k0
  have HX0 := Lib.hid hX
  have HY0 := Lib.hid hY
  have HL0 := Lib.hid hL
  have HK0 := Lib.hid hK
  have B0 := Lib.hid b0
  have HW := Lib.hid hW
  have K0 := Lib.hid k0
  have hs0 := k0.lt
  clear hX hY hL hK b0 hW k0
  cases hl : isIdB n o X Y L
  · have hz := Lib.hid (two_no1 (K := K) hl)
    have HLL := Lib.hid hl
    clear hl
    go_enter Tryz.func36, Tryz.ntmps36
    go_wp2_with (fail)
    rw [HW.out]
    refine (quotientOf_no n o A B C la ca lb cb len cap X Y L W HLL.out (HX0.out.next B0.out) (HY0.out.next B0.out) (HL0.out.next B0.out) hla hlb hlen hca hcb).mono ?_
    rintro e1 w1 ⟨rfl, hb1⟩
    have B1 := Lib.hid (below_step B0.out hb1)
    have sz1 := B1.out.size
    clear hb1 c0 c1 c2 c3
    go_wp2
    go_ret2
    refine ⟨_, by rw [hz.out]; rfl, ?_, B1.out.alloc sz1 _⟩
    rw [psh_no hz.out]
    exact SliceOut.nil
  · obtain ⟨m, e, b1, o1, b2, o2, rfl, rfl, rfl, rfl, hr, _, _, _, _, _⟩ := valid_data (ide_data (isId_ide hl)).1 HX0.out HY0.out hca hcb
    obtain ⟨hv, hpI, hpL⟩ := isId_data hl
    have R := rtab_of_valid hv
    obtain ⟨p, hp⟩ : ∃ p, setL L = p := ⟨_, rfl⟩
    rw [hp] at hpL hpI
    have HPP := Lib.hid hp
    have HPI := Lib.hid hpI
    have HPL := Lib.hid hpL
    have HR0 := Lib.hid hr
    have hm' := hr.hm'
    have HLL := Lib.hid hl
    have n1 := R.cnt_pos hpI
    have nm : qN m (tabOf X) p ≤ m := cnt_le
    clear hpL hp hr hv hpI hl
    cases hk : isIdB m e X Y K
    · have hz := Lib.hid (two_no2 (L := L) hk)
      have HKK := Lib.hid hk
      clear hk
      go_enter Tryz.func36, Tryz.ntmps36
      go_wp2_with (fail)
      rw [HW.out]
      refine (quotientOf_yes C len cap X Y L W p m e b1 o1 la ca b2 o2 lb cb HLL.out HPP.out (HR0.out.next B0.out) R HPI.out (HX0.out.next B0.out) (HY0.out.next B0.out) (HL0.out.next B0.out) hla hlb hlen hca hcb).mono ?_
      rintro e1 w1 ⟨mv, rfl, hQ, hb1⟩
      have HQ := Lib.hid hQ
      obtain ⟨vC, bm, rfl, hC, hM, _⟩ := hQ
      obtain ⟨AC, cC, rfl⟩ : ∃ A c, vC = .slice A (leas m (tabOf X) p m).length c := by
        rcases hC.2 with ⟨h1, h2⟩ | ⟨g, cap, cur, h1, _⟩
        · exact ⟨none, 0, by rw [h1, h2]⟩
        · exact ⟨_, _, h1⟩
      obtain ⟨nl, hnl⟩ : ∃ x, (leas m (tabOf X) p m).length = x := ⟨_, rfl⟩
      have B1 := Lib.hid (below_step B0.out hb1)
      have K1 := Lib.hid (K0.out.next hb1)
      have sz1 := B1.out.size
      rw [hnl] at HQ
      rw [hnl]
      unfold quoC at HQ ⊢
      clear hb1 c0 c1 c2 c3 hC hM hnl
      go_upto_region 2 with (fail)
      obtain ⟨V, hV⟩ : ∃ V, w1.alloc (.cells #[.int .i64 m, .int .i64 e, .slice (some ⟨b1, o1, none⟩) la ca, .slice (some ⟨b2, o2, none⟩) lb cb, .slice AC nl cC, .map (some bm)] 82) = V := ⟨_, rfl⟩
      have bV : Below w1.heap.size w1 V := by subst hV; exact (Below.refl _ _).alloc (Nat.le_refl _) _
      have kV : Blk V w1.heap.size 82 #[.int .i64 m, .int .i64 e, .slice (some ⟨b1, o1, none⟩) la ca, .slice (some ⟨b2, o2, none⟩) lb cb, .slice AC nl cC, .map (some bm)] := by subst hV; exact Blk.new w1 _ _
      rw [hV]
      have B2 := Lib.hid (below_step B1.out bV)
      have Q2 := Lib.hid (HQ.out.next bV)
      have KQ := Lib.hid kV
      obtain ⟨c0, c1, c2, c3⟩ := blk4 (K1.out.next bV)
      have lQ := kV.lt
      have bW1 := bV
      clear bV hV kV
      go_wp2_with (go_at_call 14; refine (isId_val HKK.out (HX0.out.next B2.out) (HY0.out.next B2.out) (HK0.out.next B2.out) hla hlb hlen' hca hcb).mono ?_; rintro e3 w3 ⟨rfl, hb3⟩; have B3 := Lib.hid (below_step B2.out hb3); clear hb3)
      go_ret2
      refine ⟨_, by rw [hz.out]; rfl, ?_, B3.out⟩
      rw [psh_no hz.out]
      exact SliceOut.nil
    · have ht := two_yes HLL.out hk
      have hz := Lib.hid ht
      obtain ⟨_, hqI, hqL⟩ := isId_data hk
      obtain ⟨q, hq⟩ : ∃ q, setL K = q := ⟨_, rfl⟩
      rw [hq] at hqL hqI
      have HQQ := Lib.hid hq
      have HK1 := Lib.hid (show Ints w w.heap.size D len' (lstP m q) by rw [← hqL]; exact HK0.out)
      have HKN := Lib.hid (show (selTo m q m).length = len' by rw [← HK1.out.1, lst_len])
      have HKK := Lib.hid hk
      have HZL := Lib.hid (show pshL m e X Y L K = lstP (qN m (tabOf X) p) (imgB m (tabOf X) p q) by rw [psh_yes hz.out, Int.toNat_natCast, HPP.out, HQQ.out])
      clear hk hqI hqL hq ht
      go_enter Tryz.func36, Tryz.ntmps36
      go_wp2_with (fail)
      rw [HW.out]
      refine (quotientOf_yes C len cap X Y L W p m e b1 o1 la ca b2 o2 lb cb HLL.out HPP.out (HR0.out.next B0.out) R HPI.out (HX0.out.next B0.out) (HY0.out.next B0.out) (HL0.out.next B0.out) hla hlb hlen hca hcb).mono ?_
      rintro e1 w1 ⟨mv, rfl, hQ, hb1⟩
      have HQ := Lib.hid hQ
      obtain ⟨vC, bm, rfl, hC, hM, _⟩ := hQ
      obtain ⟨AC, cC, rfl⟩ : ∃ A c, vC = .slice A (leas m (tabOf X) p m).length c := by
        rcases hC.2 with ⟨h1, h2⟩ | ⟨g, cap, cur, h1, _⟩
        · exact ⟨none, 0, by rw [h1, h2]⟩
        · exact ⟨_, _, h1⟩
      obtain ⟨nl, hnl⟩ : ∃ x, (leas m (tabOf X) p m).length = x := ⟨_, rfl⟩
      have B1 := Lib.hid (below_step B0.out hb1)
      have K1 := Lib.hid (K0.out.next hb1)
      have sz1 := B1.out.size
      rw [hnl] at HQ
      rw [hnl]
      unfold quoC at HQ ⊢
      clear hb1 c0 c1 c2 c3 hC hM hnl
      go_upto_region 2 with (fail)
      obtain ⟨V, hV⟩ : ∃ V, w1.alloc (.cells #[.int .i64 m, .int .i64 e, .slice (some ⟨b1, o1, none⟩) la ca, .slice (some ⟨b2, o2, none⟩) lb cb, .slice AC nl cC, .map (some bm)] 82) = V := ⟨_, rfl⟩
      have bV : Below w1.heap.size w1 V := by subst hV; exact (Below.refl _ _).alloc (Nat.le_refl _) _
      have kV : Blk V w1.heap.size 82 #[.int .i64 m, .int .i64 e, .slice (some ⟨b1, o1, none⟩) la ca, .slice (some ⟨b2, o2, none⟩) lb cb, .slice AC nl cC, .map (some bm)] := by subst hV; exact Blk.new w1 _ _
      rw [hV]
      have B2 := Lib.hid (below_step B1.out bV)
      have Q2 := Lib.hid (HQ.out.next bV)
      have KQ := Lib.hid kV
      obtain ⟨c0, c1, c2, c3⟩ := blk4 (K1.out.next bV)
      have lQ := kV.lt
      have bW1 := bV
      clear bV hV kV
      have B12 := Lib.hid (show Below w1.heap.size w1 V from bW1)
      go_upto_region 5 with (go_at_call 14; refine (isId_val HKK.out (HX0.out.next B2.out) (HY0.out.next B2.out) (HK0.out.next B2.out) hla hlb hlen' hca hcb).mono ?_; rintro e3 w3 ⟨rfl, hb3⟩; have B3 := Lib.hid (below_step B2.out hb3); have KQ3 := Lib.hid (KQ.out.next hb3); have B13 := Lib.hid (below_step B12.out hb3); have s3 := hb3.size; clear hb3 c0 c1 c2 c3)
      obtain ⟨Bs, hBs⟩ : ∃ Bs, w3.heap.size = Bs := ⟨_, rfl⟩
      obtain ⟨V4, hV4⟩ : ∃ V4, w3.alloc (.cells #[.bool false, .bool false, .bool false, .bool false, .bool false, .bool false, .bool false, .bool false, .bool false, .bool false, .bool false, .bool false, .bool false, .bool false, .bool false, .bool false] 50) = V4 := ⟨_, rfl⟩
      have b4 : Below w3.heap.size w3 V4 := by subst hV4; exact (Below.refl _ _).alloc (Nat.le_refl _) _
      have k4 : Blk V4 Bs 50 (setP fun _ => false) := by
        rw [setP_nil]
        subst hV4 hBs
        exact Blk.new w3 _ _
      rw [hV4, hBs]
      have B4 := Lib.hid (below_step B3.out b4)
      have S4 := Lib.hid k4
      have KQ4 := Lib.hid (KQ3.out.next b4)
      have B14 := Lib.hid (below_step B13.out b4)
      have sB : w1.heap.size < Bs := by omega
      have l4 := k4.lt
      have s4 := B4.out.size
      clear b4 hV4 k4 hBs
      go_wp2
      go_loopg [29] len' (fun g2 vi wr => ∃ y : Nat, y ≤ len' ∧ len' ≤ y + g2 ∧ vi = .int .i64 y ∧ Blk wr Bs 50 (setP (memB (((finN (selTo m q m)).take y).map (namK m (tabOf X) p m)))) ∧ Below Bs V4 wr)
      case atStart => exact ⟨0, Nat.zero_le _, by omega, rfl, by rw [List.take_zero, List.map_nil, memB_none]; exact S4.out, Below.refl _ _⟩
      case round =>
        obtain ⟨y, hy, hg2, rfl, hs, hb⟩ := hrel
        have SW := Lib.hid hs
        have BW := Lib.hid hb
        have B1w := Lib.hid (B14.out.trans (hb.mono (show w1.heap.size ≤ Bs by omega)))
        have QW := Lib.hid (HQ.out.next B1w.out)
        have KW := Lib.hid (show Blk wr w1.heap.size 82 #[.int .i64 m, .int .i64 e, .slice (some ⟨b1, o1, none⟩) la ca, .slice (some ⟨b2, o2, none⟩) lb cb, .slice AC nl cC, .map (some bm)] from (hb.block w1.heap.size sB).trans KQ4.out)
        have szw := hb.size
        clear hs hb
        by_cases hlt : y < len'
        · have hyL : y < (selTo m q m).length := by rw [HKN.out]; exact hlt
          obtain ⟨b', off', rfl, hb1', hc'⟩ := HK1.out.at_ hlt
          obtain ⟨u, hu, hu1, hu2⟩ := finI_get (l := selTo m q m) (k := y) hyL
          have hck' : wr.cell? ⟨b', off' + y, none⟩ = some (.int .i64 (u : Int)) := by
            rw [(B4.out.trans (BW.out.mono (by omega))).cell (p := ⟨b', off' + y, none⟩) hb1', hc']
            unfold lstP
            rw [hu1]
          obtain ⟨vC', bm', ev, _, hM, _⟩ := QW.out
          simp only [quoC, Value.agg.injEq, Array.mk.injEq, List.cons.injEq, Value.map.injEq, Option.some.injEq, and_true, true_and] at ev
          obtain ⟨rfl, rfl⟩ := ev
          have hnu := R.nam_lt HPI.out hu
          have hfm := fm_some (R.don_all HPI.out hu)
          obtain ⟨c, hc⟩ : ∃ c, namK m (tabOf X) p m u = c := ⟨_, rfl⟩
          obtain ⟨d, hd⟩ : ∃ d, ((leas m (tabOf X) p m)[namK m (tabOf X) p m u]?).getD 0 = d := ⟨_, rfl⟩
          rw [hd, hc] at hfm
          have hc16 : c < 16 := by rw [← hc]; unfold qN at nm; omega
          have HC := Lib.hid hc
          have HU2 := Lib.hid hu2
          have HM := Lib.hid hM
          have HF := Lib.hid hfm
          have hi6 := z6_info (cs := #[.int .i64 m, .int .i64 e, .slice (some ⟨b1, o1, none⟩) la ca, .slice (some ⟨b2, o2, none⟩) lb cb, .slice AC nl cC, .map (some bm)]) rfl
          clear hc' hu1 hu2 hc hnu hd hfm hM
          go_wp2_with (refine wpList_load_row rfl 82 (.tmp 8) rfl w1.heap.size rfl _ #[.int .i64 m, .int .i64 e, .slice (some ⟨b1, o1, none⟩) la ca, .slice (some ⟨b2, o2, none⟩) lb cb, .slice AC nl cC, .map (some bm)] (0, 0) _ KW.out Tryz.underlying82 rfl hi6 ?_)
          refine (qNumber_any (m := m) (e := e) (b1 := b1) (o1 := o1) (la := la) (ca := ca) (b2 := b2) (o2 := o2) (lb := lb) (cb := cb) (vC := .slice AC nl cC) (x := u) wr HM.out (by omega) HF.out).mono ?_
          rintro e5 w5 ⟨rfl, hb5⟩
          have S5 := Lib.hid (SW.out.next hb5)
          have B5 := Lib.hid (BW.out.trans (hb5.mono (by omega)))
          clear hb5 hck'
          go_wp2_with (fail)
          refine (putP_any Bs c _ w5 S5.out hc16).mono ?_
          rintro e6 w6 ⟨⟨v6, rfl⟩, rfl⟩
          have S6 := Lib.hid (S5.out.put (a := c))
          have B6 := Lib.hid (B5.out.setCell (p := ⟨Bs, c, none⟩) (Nat.le_refl _) (.bool true))
          obtain ⟨w6, hw6⟩ : ∃ w6, w5.setCell ⟨Bs, c, none⟩ (.bool true) = w6 := ⟨_, rfl⟩
          rw [hw6] at S6 B6 ⊢
          clear hw6
          go_wp2
          go_roundg (len' - (y + 1))
          case measure => omega
          case rel =>
            refine ⟨y + 1, by omega, by omega, by go_num, ?_, B6.out⟩
            rw [HU2.out, List.map_append, List.map_singleton, HC.out, ← memB_put]
            exact S6.out
        · have hym : y = len' := by omega
          subst hym
          have e0 : (finN (selTo m q m)).take y = finN (selTo m q m) := List.take_of_length_le (by have := HKN.out; simp [finN]; omega)
          have SZ := SW.out
          rw [e0] at SZ
          have SZ := Lib.hid (show Blk wr Bs 50 (setP (imgB m (tabOf X) p q)) from SZ)
          have hip := set_info (setP_size (p := imgB m (tabOf X) p q))
          have hi6 := z6_info (cs := #[.int .i64 m, .int .i64 e, .slice (some ⟨b1, o1, none⟩) la ca, .slice (some ⟨b2, o2, none⟩) lb cb, .slice AC nl cC, .map (some bm)]) rfl
          have BB := Lib.hid (B4.out.trans (BW.out.mono (show w.heap.size ≤ Bs by omega)))
          obtain ⟨qn, hqn⟩ : ∃ x, qN m (tabOf X) p = x := ⟨_, rfl⟩
          obtain ⟨nE, hnE⟩ : ∃ x, namK m (tabOf X) p m e = x := ⟨_, rfl⟩
          rw [hqn] at nm n1
          have HQN := Lib.hid hqn
          have HNE := Lib.hid hnE
          have hnn : 0 < qn * qn := Nat.mul_pos n1 n1
          clear e0 hqn hnE
          go_wp2_with (fail)
          refine wp_region_makersE 5 pqMk (PqPhi qn nE w.heap.size (lstP qn (imgB m (tabOf X) p q))) (PqSh qn nE) (pq0 qn nE) probe (by kernel_rfl) (by kernel_rfl) PqPhi_stable (fun i v x _ => PqSh_of i v x) (fun i _ => PqSh_zero i) ?_
          intro V5 hV5 vs hvs
          obtain ⟨A2, c2, A3, c3, e2⟩ := (hvs 2 rfl).p2 rfl
          obtain ⟨A4, l4', c4, e4⟩ := (hvs 4 rfl).p4 rfl
          have cW : ∃ x, extC V5 x := ⟨V5, extC_of (Below.refl _ _)⟩
          have KX := Lib.hid (show ∀ x, extC V5 x → Below wr.heap.size wr x from fun x ⟨u, hu⟩ => by rw [hu]; exact below_step hV5 (ext_below V5 u))
          have GQ := (KW.out.next hV5).inC
          have GS := (SZ.out.next hV5).inC
          clear hV5
          simp only [List.take_succ_cons, List.take_zero, List.drop_succ_cons, List.drop_zero]
          refine wpV_quietE cW 2 0 _ _ (by decide) (by decide) ?_
          simp only [List.take_succ_cons, List.take_zero, List.drop_succ_cons, List.drop_zero]
          repeat (first
            | (refine wpQuiet_load_row rfl 82 (.tmp 8) rfl w1.heap.size rfl _ #[.int .i64 m, .int .i64 e, .slice (some ⟨b1, o1, none⟩) la ca, .slice (some ⟨b2, o2, none⟩) lb cb, .slice AC nl cC, .map (some bm)] _ GQ Tryz.underlying82 rfl hi6 ?_; go_simp)
            | (go_big_quiet_step (fail)))
          refine wpQuiet_nil ?_
          refine wpV_make_E rfl rfl (fun x hx _ => ?_) ?_
          · unfold makesAtE
            go_simp
            refine ⟨rfl, (made_quo (QW.out.next (KX.out x hx)) (HR0.out.next (BB.out.trans ((KX.out x hx).mono BB.out.size))) R HPI.out).mono ?_⟩
            rintro _ x' ⟨v, rfl, ⟨v2, v3, rfl, o2', o3', _⟩, hb⟩
            rw [HQN.out] at o2' o3' ⊢
            obtain ⟨gA, cA, rfl, _, _⟩ := o2'.form hnn
            obtain ⟨gB, cB, rfl, _, _⟩ := o3'.form hnn
            exact ⟨_, rfl, hb, ⟨fun _ => ⟨_, _, _, _, by rw [HNE.out]⟩, fun e => absurd e (by decide)⟩, fun b hbb => (by cases hbb)⟩
          rw [e2]
          go_simp
          refine wpV_quietE cW 1 _ _ _ (by decide) (by decide) ?_
          simp only [List.take_succ_cons, List.take_zero, List.drop_succ_cons, List.drop_zero]
          repeat (first
            | (refine wpQuiet_load_row rfl 50 (.tmp 10) rfl Bs rfl _ (setP (imgB m (tabOf X) p q)) _ GS Tryz.underlying50 rfl hip ?_; go_simp)
            | (go_big_quiet_step (fail)))
          refine wpQuiet_nil ?_
          refine wpV_make_E rfl rfl (fun x hx _ => ?_) ?_
          · unfold makesAtE
            go_simp
            refine ⟨rfl, (elements_any (imgB m (tabOf X) p q) qn nE A2 A3 (qn * qn) c2 (qn * qn) c3 x (by omega)).mono ?_⟩
            rintro _ x' ⟨v, rfl, ho, hb⟩
            exact ⟨_, rfl, hb, ⟨fun e => absurd e (by decide), fun _ => ho.down (by have := (KX.out x hx).size; have := BB.out.size; omega)⟩, fun b hbb => (by cases hbb)⟩
          rw [e4]
          go_simp
          refine wpV_nilE ?_
          intro w7 hb7 hf _
          have h4 := (hf 4 (by decide) rfl).p4 rfl
          rw [e4] at h4
          have H4 := Lib.hid h4
          have B7 := Lib.hid (below_step BB.out hb7)
          clear hb7 hf h4 hvs
          go_wp2
          go_ret2
          exact ⟨_, by rw [hz.out]; rfl, by rw [HZL.out, HQN.out]; exact H4.out, B7.out⟩

end Go.Proofs.YtajoimopahibcaaGreat

