/- Texts of this seat in one: XK XM XL. -/
import Derived.Test.YtajoimopahibcaaGreatMN
import Derived.Test.YtajoimopahibcaaGreatMR
import Derived.DeepKeys4
import Derived.ArgAppend
import Derived.Maps.AppendAt
import Derived.Deep.MidRow
import Derived.Test.YtajoimopahibcaaGreatNA
import Derived.Test.YtajoimopahibcaaGreatMO

/- A map from sets to flags: which sets it holds. -/
namespace Go.Proofs.YtajoimopahibcaaGreat
open Go.RowKit Go.Shelf
set_option maxRecDepth 100000

theorem laidS : laidOutB Tryz.prog = true := by kernel_rfl
theorem law_setK : Go.Maps.Keyed Tryz.prog 50 := Go.Maps.Keyed.of_law (deep_law_laid laidS (m := 2) (by omega) (of_decide_eq_true (by kernel_rfl)) (by kernel_rfl) (by kernel_rfl))
theorem setP_list (p : Nat → Bool) : setP p = #[.bool (p 0), .bool (p 1), .bool (p 2), .bool (p 3), .bool (p 4), .bool (p 5), .bool (p 6), .bool (p 7), .bool (p 8), .bool (p 9), .bool (p 10), .bool (p 11), .bool (p 12), .bool (p 13), .bool (p 14), .bool (p 15)] := by
  unfold setP
  rw [show Array.range 16 = #[0, 1, 2, 3, 4, 5, 6, 7, 8, 9, 10, 11, 12, 13, 14, 15] by decide]
  simp
noncomputable def keyS (p : Nat → Bool) : Lit := (keyOf Tryz.prog 50 (.agg (setP p))).getD (.bool false)
theorem some_of {α : Type} {o : Option α} (h : o.isSome = true) (d : α) : o = some (o.getD d) := by
  cases o with
  | none => cases h
  | some a => rfl
theorem key_bits (c0 c1 c2 c3 c4 c5 c6 c7 c8 c9 ca cb cc cd ce cf : Bool) : (keyOf Tryz.prog 50 (.agg #[.bool c0, .bool c1, .bool c2, .bool c3, .bool c4, .bool c5, .bool c6, .bool c7, .bool c8, .bool c9, .bool ca, .bool cb, .bool cc, .bool cd, .bool ce, .bool cf])).isSome = true := by kernel_rfl
theorem key_set (p : Nat → Bool) : keyOf Tryz.prog 50 (.agg (setP p)) = some (keyS p) := some_of (by rw [setP_list]; exact key_bits _ _ _ _ _ _ _ _ _ _ _ _ _ _ _ _) _
theorem keyS_inj {p q : Nat → Bool} (h : keyS p = keyS q) {i : Nat} (hi : i < 16) : p i = q i := by
  have h1 := law_setK.inj (key_set p) (h ▸ key_set q)
  simp only [Value.agg.injEq] at h1
  exact setP_inj h1 hi
theorem keyS_lit (p : Nat → Bool) : WideAt.IsKeyLit (keyS p) := law_setK.key (key_set p)
/-- A set of numbers below 16. -/
def Sm16 (p : Nat → Bool) : Prop := ∀ i, p i = true → i < 16
theorem keyS_eq {p q : Nat → Bool} (hp : Sm16 p) (hq : Sm16 q) (h : keyS p = keyS q) : p = q := bool_ext fun i => by
  by_cases hi : i < 16
  · rw [keyS_inj h hi]
  · constructor
    · intro e; have := hp i e; omega
    · intro e; have := hq i e; omega
theorem zero_flag (w : World) : (zeroValue 4).run Tryz.prog w = .ok (.bool false) w := by kernel_rfl

noncomputable def flagE (v : Value) : Option (DataW Unit × List MemPlace) := plainElem Tryz.prog 4 v
theorem flagE_mk (b : Bool) : flagE (.bool b) = some (.lit (.bool b), []) := plainElem_bool Tryz.underlying4 b
theorem flagE_inv {v : Value} {b : Bool} {ps : List MemPlace} (h : flagE v = some (.lit (.bool b), ps)) : v = .bool b := by
  unfold flagE plainElem at h
  rw [Tryz.underlying4] at h
  split at h
  · simp only [Option.some.injEq, Prod.mk.injEq, DataW.lit.injEq, Lit.bool.injEq] at h
    rw [h.1]
  all_goals first | contradiction | (exfalso; simp_all; done)
/-- Block b is a map of at most k entries that holds these sets. -/
def MapS (k : Nat) (w : World) (b : Nat) (As : List (Nat → Bool)) : Prop :=
  ∃ n D, n ≤ k ∧ w.ownsMap Tryz.prog 50 flagE b n D ∧ ∀ p, Sm16 p → (p ∈ As → ∀ z, D.atKey (keyS p) z = .lit (.bool true)) ∧ (p ∉ As → Maps.has D (keyS p) = false)
section
variable {k b : Nat} {w w' : World} {As : List (Nat → Bool)}
theorem MapS.lt (h : MapS k w b As) : b < w.heap.size := by obtain ⟨n, D, _, h1, _⟩ := h; exact h1.lt
theorem MapS.kept {row : Option Nat} (h : MapS k w b As) (hg : w.grownBy w' row) (hne : some b ≠ row) : MapS k w' b As := by
  obtain ⟨n, D, h0, h1, h2⟩ := h
  exact ⟨n, D, h0, h1.kept hg hne, h2⟩
theorem MapS.next (h : MapS k w b As) (hb : Below w.heap.size w w') : MapS k w' b As := h.kept (row := none) (grownBy_below hb) (by simp)
theorem MapS.heap (h : MapS k w b As) (hh : w'.heap[b]? = w.heap[b]?) : MapS k w' b As := by
  obtain ⟨n, D, h0, ⟨es, clock, hb, rest⟩, h2⟩ := h
  exact ⟨n, D, h0, ⟨es, clock, hh.trans hb, rest⟩, h2⟩
theorem MapS.ne_blk {t : TypeId} {cs : Array Value} (h : MapS k w b As) (hb : Blk w b t cs) : False := by
  obtain ⟨n, D, _, ⟨es, clock, h1, _⟩, _⟩ := h
  unfold Blk at hb
  rw [h1] at hb
  cases hb
theorem MapS.ne_row {D n size : Nat} {e : TypeId} {v : Value} {xs : List Value} (h : MapS k w b As) (hv : w.ownsRow D e size v n xs) (he : some b = v.ownBlock) : False := by
  rcases hv.2 with ⟨rfl, _⟩ | ⟨g, cap, cur, rfl, _, hh, _⟩
  · cases he
  · simp only [Value.ownBlock, Option.some.injEq] at he
    subst he
    exact h.ne_blk (t := e) (cs := cur) hh
theorem MapS.more (h : MapS k w b As) {k' : Nat} (hk : k ≤ k') : MapS k' w b As := by
  obtain ⟨n, D, h0, h1⟩ := h
  exact ⟨n, D, Nat.le_trans h0 hk, h1⟩
theorem MapS.made (w : World) : MapS 0 (w.alloc (.map #[] 0)) w.heap.size [] :=
  ⟨0, .map [], Nat.le_refl _, World.ownsMap_made _ _ _ _, fun _ _ => ⟨fun h => absurd h (by simp), fun _ => rfl⟩⟩
theorem MapS.yes (h : MapS k w b As) {p : Nat → Bool} (hp : Sm16 p) (hm : p ∈ As) : (Instr.lookup 104 (.map (some b)) (.agg (setP p)) false).run Tryz.prog w = .ok (.bool true) w := by
  obtain ⟨n, D, _, h1, h2⟩ := h
  obtain ⟨v, ps, hr, hv⟩ := h1.lookup law_setK Tryz.underlying104 (zero_flag w) (flagE_mk false) (key_set p)
  rw [(h2 p hp).1 hm] at hv
  rw [flagE_inv hv] at hr
  exact hr
theorem MapS.no (h : MapS k w b As) {p : Nat → Bool} (hp : Sm16 p) (hm : p ∉ As) : (Instr.lookup 104 (.map (some b)) (.agg (setP p)) false).run Tryz.prog w = .ok (.bool false) w := by
  obtain ⟨n, D, _, h1, h2⟩ := h
  obtain ⟨v, ps, hr, hv⟩ := h1.lookup law_setK Tryz.underlying104 (zero_flag w) (flagE_mk false) (key_set p)
  rw [Go.Maps.atKey_of_not_has ((h2 p hp).2 hm)] at hv
  rw [flagE_inv hv] at hr
  exact hr
theorem MapS.put (h : MapS k w b As) {p : Nat → Bool} (hp : Sm16 p) (hk : k ≤ 1000000) : ∃ w', (Instr.mapUpdate 104 (.map (some b)) (.agg (setP p)) (.bool true)).run Tryz.prog w = .ok () w' ∧ MapS (k + 1) w' b (As ++ [p]) ∧ w.grownBy w' (some b) := by
  obtain ⟨n, D, h0, h1, h2⟩ := h
  obtain ⟨w', hr, h3, h4⟩ := h1.update law_setK Tryz.underlying104 (by unfold maxLen; omega) (key_set p) (flagE_mk true)
  refine ⟨w', hr, ⟨n + 1, _, by omega, h3, fun q hq => ?_⟩, h4⟩
  by_cases hqp : q = p
  · subst hqp
    exact ⟨fun _ z => Go.Maps.atKey_put_same h1.isMap (keyS_lit q) _ z, fun hn => absurd (by simp) hn⟩
  · have hne : keyS q ≠ keyS p := fun e => hqp (keyS_eq hq hp e)
    refine ⟨fun hm z => ?_, fun hm => ?_⟩
    · rw [Go.Maps.atKey_put_other hne]
      refine (h2 q hq).1 ?_ z
      rw [List.mem_append, List.mem_singleton] at hm
      exact hm.resolve_right hqp
    · rw [Go.Maps.has_put_other hne]
      exact (h2 q hq).2 fun h => hm (List.mem_append_left _ h)
end

/-- A row of sets. -/
def setsV (As : List (Nat → Bool)) : List Value := As.flatMap fun p => (setP p).toList
theorem setsV_snoc {As : List (Nat → Bool)} {p : Nat → Bool} : setsV (As ++ [p]) = setsV As ++ (setP p).toList := by simp [setsV]
theorem setsV_len : ∀ {As : List (Nat → Bool)}, (setsV As).length = As.length * 16
  | [] => rfl
  | p :: As => by
    have ih := setsV_len (As := As)
    unfold setsV at ih ⊢
    rw [List.flatMap_cons, List.length_append, ih, List.length_cons, Array.length_toList, setP_size]
    omega
theorem setsV_get : ∀ {As : List (Nat → Bool)} {i j : Nat} {p : Nat → Bool}, As[i]? = some p → j < 16 → (setsV As)[i * 16 + j]? = some (.bool (p j))
  | [], i, j, p, h, _ => by simp at h
  | q :: As, 0, j, p, h, hj => by
    simp only [List.getElem?_cons_zero, Option.some.injEq] at h
    subst h
    unfold setsV
    rw [List.flatMap_cons, List.getElem?_append_left (by rw [Array.length_toList, setP_size]; omega), Nat.zero_mul, Nat.zero_add, Array.getElem?_toList, setP_get hj]
  | q :: As, i + 1, j, p, h, hj => by
    simp only [List.getElem?_cons_succ] at h
    have ih := setsV_get (As := As) h hj
    unfold setsV at ih ⊢
    rw [List.flatMap_cons, List.getElem?_append_right (by rw [Array.length_toList, setP_size]; omega), Array.length_toList, setP_size, show (i + 1) * 16 + j - 16 = i * 16 + j by omega]
    exact ih
end Go.Proofs.YtajoimopahibcaaGreat



/- An append keeps the cells that the old slice shows. -/
namespace Go.Proofs.YtajoimopahibcaaGreat
open Go.RowKit Go.Shelf
set_option maxRecDepth 100000

section
variable {P : Program} {w : World}
theorem run_append_shows (base : Nat) (t ty e : TypeId) (i : TypeInfo) (z : Value) (size bytes : Nat) (ht : P.underlying t = some (.slice e)) (hi : P.info? e = some i) (hz : i.zero = some z)
    (hsize : i.size = size) (hby : i.bytes = bytes) (hzs : z.cells.size = size) (hsz : 0 < size)
    (v : Value) (n : Nat) (xs : List Value) (hown : w.ownsRow base e size v n xs)
    (ad : Addr) (m c : Nat) (news : List Value) (hl : news.length = m * size) (hnews : ∀ j u, news[j]? = some u → w.cell? (ad.add j) = some u) (h1 : ∀ u ∈ news, u.oneCell' = true)
    (h63 : n + m ≤ maxLen) (hbytes : (n + m) * bytes ≤ 140737488355328) (hbase : base ≤ w.heap.size) :
    ∃ v' w', (Builtin.append_ #[t, t] ty #[v, .slice (some ad) m c]).run P w = .ok v' w' ∧ w'.ownsRow base e size v' (n + m) (xs ++ news) ∧ w.grownBy w' v.ownBlock ∧ (v'.ownBlock = v.ownBlock ∨ v'.ownBlock = some w.heap.size) ∧
      ∀ g, v.ownBlock = some g → ∀ k, k < n * size → w'.cell? ⟨g, k, none⟩ = w.cell? ⟨g, k, none⟩ := by
  obtain ⟨v', w', hr, h2, h3, _, h5⟩ := run_append_own_at (P := P) w base t ty e i z size bytes ht hi hz hsize hby hzs hsz v n xs hown ad m c news hl hnews h1 h63 hbytes hbase
  refine ⟨v', w', hr, h2, h3, h5, fun g hg k hk => ?_⟩
  rcases hown.2 with ⟨rfl, _⟩ | ⟨g', cap, cur, rfl, hbg, hb, hc, hm, hs, htk⟩
  · cases hg
  · simp only [Value.ownBlock, Option.some.injEq] at hg
    subst hg
    have hb' : Blk w g' e cur := hb
    by_cases hroom : n + m ≤ cap
    · have hin : ∀ j, j < news.length → n * size + j < cur.size := fun j hj => by
        rw [hs]
        have h6 : (n + m) * size ≤ cap * size := Nat.mul_le_mul_right _ hroom
        rw [Nat.add_mul] at h6
        omega
      have hrun := run_append_room_cells (P := P) w t ty e i ht hi g' 0 n cap ad m c news (by rw [hsize]; exact hl) hnews h1 hroom
        (fun j hj => by rw [hsize, Nat.zero_add, hb'.cell, Array.getElem?_eq_getElem (hin j hj)]; rfl) (fun j hj => hb'.frozen _)
      rw [hr] at hrun
      simp only [Result.ok.injEq] at hrun
      rw [hrun.2, hsize, Nat.zero_add]
      exact World.cell?_setCells_out _ _ _ _ _ (fun _ _ => by show k < n * size ∨ _; omega)
    · have hls : (xs).length = n * size := hown.1
      obtain ⟨v2, w2, hrun, _, hg2⟩ := run_append_arg_grows (P := P) w t ty e i z size bytes ht hi hz hsize hby hzs hsz ⟨g', 0, none⟩ n cap xs hls (fun j u hu => by
        have hj : j < n * size := by rw [← hls]; exact (List.getElem?_eq_some_iff.1 hu).1
        have e1 : (⟨g', 0, none⟩ : Addr).add j = ⟨g', j, none⟩ := by unfold Addr.add; split <;> simp_all
        rw [e1, hb'.cell, ← Array.getElem?_toList]
        rw [← htk, List.getElem?_take, if_pos hj] at hu
        exact hu) ad m c news hl hnews (by omega) h63 hbytes
      rw [hr] at hrun
      simp only [Result.ok.injEq] at hrun
      rw [hrun.2]
      exact World.cell?_of_block (a := ⟨g', k, none⟩) (hg2.block g' hb'.lt (by simp))
theorem wpList_append_shows {ops : Array Oper} {rest : List Oper} {o : Oper} {a : Act} {Q : Exit → Act → World → Prop} (hgd : o.guard = none) (s x : Operand) (t : TypeId)
    (ho : o.op = .call { callee := .builtin .append, args := #[s, x], argTypes := #[t, t] })
    (base : Nat) (e : TypeId) (i : TypeInfo) (z : Value) (size bytes : Nat) (ht : P.underlying t = some (.slice e)) (hi : P.info? e = some i) (hz : i.zero = some z)
    (hsize : i.size = size) (hby : i.bytes = bytes) (hzs : z.cells.size = size) (hsz : 0 < size)
    (v : Value) (n : Nat) (xs : List Value) (hs : a.eval s = v) (hown : w.ownsRow base e size v n xs)
    (ad : Addr) (m c : Nat) (news : List Value) (hx : a.eval x = .slice (some ad) m c) (hl : news.length = m * size) (hnews : ∀ j u, news[j]? = some u → w.cell? (ad.add j) = some u) (h1 : ∀ u ∈ news, u.oneCell' = true)
    (h63 : n + m ≤ maxLen) (hbytes : (n + m) * bytes ≤ 140737488355328) (hbase : base ≤ w.heap.size)
    (h : ∀ v' w', w'.ownsRow base e size v' (n + m) (xs ++ news) → w.grownBy w' v.ownBlock → (v'.ownBlock = v.ownBlock ∨ v'.ownBlock = some w.heap.size) → (∀ g, v.ownBlock = some g → ∀ k, k < n * size → w'.cell? ⟨g, k, none⟩ = w.cell? ⟨g, k, none⟩) → wpList P ops Q rest (a.put o.dst v') w') :
    wpList P ops Q (o :: rest) a w := by
  refine wpList_plain hgd fun K hK => ?_
  obtain ⟨v', w', hr, h2, h3, h4, h5⟩ := run_append_shows (P := P) base t o.type e i z size bytes ht hi hz hsize hby hzs hsz v n xs hown ad m c news hl hnews h1 h63 hbytes hbase
  unfold Oper.wp execOp
  simp only [ho, resolve, invoke, builtin, Sem.run_bind, Sem.run_pure, Result.andThen_ok, List.map_toArray, List.map_cons, List.map_nil, hs, hx, hr]
  exact hK _ _ (h v' w' h2 h3 h4 h5)
end

/-- The sets that are reached with the first elements. -/
def Rch (m : Nat) (S P : Nat → Nat) : Nat → (Nat → Bool) → Prop
  | 0, q => q = mulB m P 0
  | k + 1, q => Rch m S P k q ∨ ∃ r, Rch m S P k r ∧ q = opsB m S r (mulB m P k)
theorem set_len {p : Nat → Bool} : (setP p).toList.length = 1 * 16 := by rw [Array.length_toList, setP_size]
theorem set_news {g : Nat} {p : Nat → Bool} {w : World} {t : TypeId} (h : Blk w g t (setP p)) : ∀ j u, (setP p).toList[j]? = some u → w.cell? ((⟨g, 0, none⟩ : Addr).add j) = some u := fun j u hu => by
  have e : (⟨g, 0, none⟩ : Addr).add j = ⟨g, j, none⟩ := by unfold Addr.add; split <;> simp_all
  rw [e, h.cell, ← Array.getElem?_toList, hu]
theorem set_cells {p : Nat → Bool} : ∀ u ∈ (setP p).toList, u.oneCell' = true := fun u hu => (Array.all_eq_true_iff_forall_mem.1 (setP_one (p := p))) u (by simpa using hu)
theorem set_infoR : (Tryz.prog.info? 50).map (fun i => (i.zero, i.size, i.bytes)) = some (some (.agg #[.bool false, .bool false, .bool false, .bool false, .bool false, .bool false, .bool false, .bool false, .bool false, .bool false, .bool false, .bool false, .bool false, .bool false, .bool false, .bool false]), 16, 16) := by kernel_rfl
end Go.Proofs.YtajoimopahibcaaGreat



/- All ideals, as the program finds them, in no certain order. -/
namespace Go.Proofs.YtajoimopahibcaaGreat
open Go.RowKit Go.Shelf
set_option maxRecDepth 100000

theorem run_load_blk {o : Oper} {ev : Operand → Value} {x : Operand} {g : Nat} {U : Array Value} {w : World} (ho : o.op = .load 50 x) (hx : ev x = .pointer (some ⟨g, 0, none⟩)) (h : w.heap[g]? = some (.cells U 50 (0, 0))) (hU : U.size = 16) :
    (execOp ev o).run Tryz.prog w = .ok (.value (.agg U)) w := by
  unfold execOp
  simp only [ho, hx, Instr.loadAt, Instr.sureAddr, Sem.run_bind, Sem.run_pure, Result.andThen_ok, run_loadVar_row w g _ 50 U (0, 0) _ h Tryz.underlying50 rfl (set_info hU)]

set_option maxHeartbeats 8000000 in
theorem ideals_any (m e b1 o1 la ca b2 o2 lb cb : Nat) (S P : Nat → Nat) (w : World) (hr : RingAt w m e b1 o1 la ca b2 o2 lb cb S P) (R : RTab m S P e) :
    Calls Tryz.prog 52 #[.agg #[.int .i64 m, .int .i64 e, .slice (some ⟨b1, o1, none⟩) la ca, .slice (some ⟨b2, o2, none⟩) lb cb]] w fun e' w' => ∃ v As, e' = .returned v ∧ w'.ownsRow w.heap.size 50 16 v As.length (setsV As) ∧ As.Nodup ∧ (∀ p, p ∈ As ↔ Idl m S P p) ∧ Below w.heap.size w w' := by
  obtain ⟨W, hW⟩ : ∃ W, w.alloc (.cells #[.int .i64 m, .int .i64 e, .slice (some ⟨b1, o1, none⟩) la ca, .slice (some ⟨b2, o2, none⟩) lb cb] 25) = W := ⟨_, rfl⟩
  have b0 : Below w.heap.size w W := by
    subst hW; exact (Below.refl _ _).alloc (Nat.le_refl _) _
  have k0 : Blk W w.heap.size 25 #[.int .i64 m, .int .i64 e, .slice (some ⟨b1, o1, none⟩) la ca, .slice (some ⟨b2, o2, none⟩) lb cb] := by
    subst hW; exact Blk.new w _ _
  obtain ⟨c0, c1, c2, c3⟩ := blk4 k0
  obtain ⟨p, hp⟩ : ∃ p, mulB m P 0 = p := ⟨_, rfl⟩
  have hpI : Idl m S P p := by rw [← hp]; exact R.mul_idl hr.hm
  have HR0 := Lib.hid hr
  have B0 := Lib.hid b0
  have HW := Lib.hid hW
  have K0 := Lib.hid k0
  have HP := Lib.hid hp
  have HPI := Lib.hid hpI
  have hm' := hr.hm'
  have hm := hr.hm
  have hs0 := k0.lt
  have hip := set_info (setP_size (p := p))
  have hop := setP_one (p := p)
  have holdp : (#[.bool false, .bool false, .bool false, .bool false, .bool false, .bool false, .bool false, .bool false, .bool false, .bool false, .bool false, .bool false, .bool false, .bool false, .bool false, .bool false] : Array Value).size = (setP p).size := by rw [setP_size]; rfl
  clear hr b0 hW k0 hp hpI
  go_enter Tryz.func52, Tryz.ntmps52
  go_wp2_with (fail)
  rw [HW.out]
  refine (multiples_any 0 m e b1 o1 la ca b2 o2 lb cb S P W (HR0.out.next B0.out) hm).mono ?_
  rw [HP.out]
  rintro e1 w1 ⟨rfl, hb1⟩
  have B1 := Lib.hid (below_step B0.out hb1)
  have K1 := Lib.hid (K0.out.next hb1)
  have s1 := hb1.size
  obtain ⟨g1, hg1⟩ : ∃ g1, w1.heap.size = g1 := ⟨_, rfl⟩
  clear hb1 c0 c1 c2 c3
  have KN1 : Blk (w1.alloc (.cells #[.bool false, .bool false, .bool false, .bool false, .bool false, .bool false, .bool false, .bool false, .bool false, .bool false, .bool false, .bool false, .bool false, .bool false, .bool false, .bool false] 50)) g1 50 #[.bool false, .bool false, .bool false, .bool false, .bool false, .bool false, .bool false, .bool false, .bool false, .bool false, .bool false, .bool false, .bool false, .bool false, .bool false, .bool false] := by rw [← hg1]; exact Blk.new _ _ _
  go_upto_region 2 with (refine wpList_store_row rfl 50 (.tmp 3) (.tmp 12) rfl g1 (setP p) rfl rfl _ _ KN1 hip holdp hop ?_)
  obtain ⟨V1, hV1⟩ : ∃ V1, (w1.alloc (.cells #[.bool false, .bool false, .bool false, .bool false, .bool false, .bool false, .bool false, .bool false, .bool false, .bool false, .bool false, .bool false, .bool false, .bool false, .bool false, .bool false] 50)).setRow g1 (setP p) = V1 := ⟨_, rfl⟩
  have bV1 : Below w1.heap.size w1 V1 := by subst hV1 hg1; exact set_row.2
  have kV1 : Blk V1 g1 50 (setP p) := by subst hV1 hg1; exact set_row.1
  rw [hV1]
  have B2 := Lib.hid (below_step B1.out bV1)
  have K2 := Lib.hid (K1.out.next bV1)
  have G1 := Lib.hid kV1
  have s2 := kV1.lt
  clear hV1 bV1 kV1 KN1
  obtain ⟨nV, hnV⟩ : ∃ n, V1.heap.size = n := ⟨_, rfl⟩
  have hps : Sm16 p := fun i hi => Nat.lt_of_lt_of_le (HPI.out.lt i hi) hm'
  rw [hnV] at s2
  obtain ⟨u0, hu0⟩ : ∃ u, Value.bool (p 0) = u := ⟨_, rfl⟩
  obtain ⟨u1, hu1⟩ : ∃ u, Value.bool (p 1) = u := ⟨_, rfl⟩
  obtain ⟨u2, hu2⟩ : ∃ u, Value.bool (p 2) = u := ⟨_, rfl⟩
  obtain ⟨u3, hu3⟩ : ∃ u, Value.bool (p 3) = u := ⟨_, rfl⟩
  obtain ⟨u4, hu4⟩ : ∃ u, Value.bool (p 4) = u := ⟨_, rfl⟩
  obtain ⟨u5, hu5⟩ : ∃ u, Value.bool (p 5) = u := ⟨_, rfl⟩
  obtain ⟨u6, hu6⟩ : ∃ u, Value.bool (p 6) = u := ⟨_, rfl⟩
  obtain ⟨u7, hu7⟩ : ∃ u, Value.bool (p 7) = u := ⟨_, rfl⟩
  obtain ⟨u8, hu8⟩ : ∃ u, Value.bool (p 8) = u := ⟨_, rfl⟩
  obtain ⟨u9, hu9⟩ : ∃ u, Value.bool (p 9) = u := ⟨_, rfl⟩
  obtain ⟨u10, hu10⟩ : ∃ u, Value.bool (p 10) = u := ⟨_, rfl⟩
  obtain ⟨u11, hu11⟩ : ∃ u, Value.bool (p 11) = u := ⟨_, rfl⟩
  obtain ⟨u12, hu12⟩ : ∃ u, Value.bool (p 12) = u := ⟨_, rfl⟩
  obtain ⟨u13, hu13⟩ : ∃ u, Value.bool (p 13) = u := ⟨_, rfl⟩
  obtain ⟨u14, hu14⟩ : ∃ u, Value.bool (p 14) = u := ⟨_, rfl⟩
  obtain ⟨u15, hu15⟩ : ∃ u, Value.bool (p 15) = u := ⟨_, rfl⟩
  have HUL := Lib.hid (show setP p = #[u0, u1, u2, u3, u4, u5, u6, u7, u8, u9, u10, u11, u12, u13, u14, u15] by rw [setP_list, hu0, hu1, hu2, hu3, hu4, hu5, hu6, hu7, hu8, hu9, hu10, hu11, hu12, hu13, hu14, hu15])
  clear hu0 hu1 hu2 hu3 hu4 hu5 hu6 hu7 hu8 hu9 hu10 hu11 hu12 hu13 hu14 hu15
  have HNV := Lib.hid hnV
  have bb1 : Blk V1 g1 50 #[u0, u1, u2, u3, u4, u5, u6, u7, u8, u9, u10, u11, u12, u13, u14, u15] := by rw [← HUL.out]; exact G1.out
  have nM : (V1.alloc (.map #[] 0)).heap.size = nV + 1 := by rw [World.size_alloc, hnV]
  have nS : (V1.alloc (.cells #[u0, u1, u2, u3, u4, u5, u6, u7, u8, u9, u10, u11, u12, u13, u14, u15] 50)).heap.size = nV + 1 := by rw [World.size_alloc, hnV]
  have mM : MapS 0 (V1.alloc (.map #[] 0)) nV [] := by rw [← hnV]; exact MapS.made V1
  have mX : MapS 0 ((V1.alloc (.cells #[u0, u1, u2, u3, u4, u5, u6, u7, u8, u9, u10, u11, u12, u13, u14, u15] 50)).alloc (.map #[] 0)) (nV + 1) [] := by rw [← nS]; exact MapS.made _
  have mY : MapS 0 ((V1.alloc (.map #[] 0)).alloc (.cells #[u0, u1, u2, u3, u4, u5, u6, u7, u8, u9, u10, u11, u12, u13, u14, u15] 50)) nV [] := mM.next ((Below.refl _ _).alloc (Nat.le_refl _) _)
  obtain ⟨wc, rc, mc, gc⟩ := (show MapS 0 (V1.drew.alloc (.map #[] 0)) nV [] from mM).put hps (by omega)
  obtain ⟨wd, rd, md, gd⟩ := (show MapS 0 ((V1.drew.alloc (.cells #[u0, u1, u2, u3, u4, u5, u6, u7, u8, u9, u10, u11, u12, u13, u14, u15] 50)).alloc (.map #[] 0)) (nV + 1) [] from mX).put hps (by omega)
  obtain ⟨we, re, me, ge⟩ := (show MapS 0 ((V1.drew.alloc (.map #[] 0)).alloc (.cells #[u0, u1, u2, u3, u4, u5, u6, u7, u8, u9, u10, u11, u12, u13, u14, u15] 50)) nV [] from mY).put hps (by omega)
  rw [HUL.out] at rc rd re
  have hmm : ∀ x : World, (Instr.makeMap 104 none).run Tryz.prog x = .ok (.map (some x.heap.size)) (x.alloc (.map #[] 0)) := fun x => rfl
  have rc' : (Instr.mapUpdate 104 (.map (some nV)) (.agg #[u0, u1, u2, u3, u4, u5, u6, u7, u8, u9, u10, u11, u12, u13, u14, u15]) (.bool true)).run Tryz.prog ((V1.alloc (.map #[] 0)).drew) = .ok () wc := rc
  have rd' : (Instr.mapUpdate 104 (.map (some (nV + 1))) (.agg #[u0, u1, u2, u3, u4, u5, u6, u7, u8, u9, u10, u11, u12, u13, u14, u15]) (.bool true)).run Tryz.prog (((V1.alloc (.cells #[u0, u1, u2, u3, u4, u5, u6, u7, u8, u9, u10, u11, u12, u13, u14, u15] 50)).alloc (.map #[] 0)).drew) = .ok () wd := rd
  have re' : (Instr.mapUpdate 104 (.map (some nV)) (.agg #[u0, u1, u2, u3, u4, u5, u6, u7, u8, u9, u10, u11, u12, u13, u14, u15]) (.bool true)).run Tryz.prog (((V1.alloc (.map #[] 0)).alloc (.cells #[u0, u1, u2, u3, u4, u5, u6, u7, u8, u9, u10, u11, u12, u13, u14, u15] 50)).drew) = .ok () we := re
  clear rc rd re
  obtain ⟨nC, hnC⟩ : ∃ n, wc.heap.size = n := ⟨_, rfl⟩
  have hC1 : nV + 1 ≤ nC := by rw [← hnC, ← nM]; exact gc.size
  have bbc : Blk wc g1 50 #[u0, u1, u2, u3, u4, u5, u6, u7, u8, u9, u10, u11, u12, u13, u14, u15] := (gc.block g1 (by show g1 < (V1.alloc (.map #[] 0)).heap.size; omega) (by simp; omega)).trans (bb1.alloc _)
  have bbd : Blk wd g1 50 #[u0, u1, u2, u3, u4, u5, u6, u7, u8, u9, u10, u11, u12, u13, u14, u15] := (gd.block g1 (by show g1 < ((V1.alloc (.cells #[u0, u1, u2, u3, u4, u5, u6, u7, u8, u9, u10, u11, u12, u13, u14, u15] 50)).alloc (.map #[] 0)).heap.size; rw [World.size_alloc, nS]; omega) (by simp; omega)).trans ((bb1.alloc _).alloc _)
  have bbe : Blk we g1 50 #[u0, u1, u2, u3, u4, u5, u6, u7, u8, u9, u10, u11, u12, u13, u14, u15] := (ge.block g1 (by show g1 < ((V1.alloc (.map #[] 0)).alloc (.cells #[u0, u1, u2, u3, u4, u5, u6, u7, u8, u9, u10, u11, u12, u13, u14, u15] 50)).heap.size; rw [World.size_alloc, nM]; omega) (by simp; omega)).trans ((bb1.alloc _).alloc _)
  have ssd : Blk wd nV 50 (setP p) := by
    rw [HUL.out]
    refine (gd.block nV (by show nV < ((V1.alloc (.cells #[u0, u1, u2, u3, u4, u5, u6, u7, u8, u9, u10, u11, u12, u13, u14, u15] 50)).alloc (.map #[] 0)).heap.size; rw [World.size_alloc, nS]; omega) (by simp)).trans ?_
    have := (Blk.new V1 50 #[u0, u1, u2, u3, u4, u5, u6, u7, u8, u9, u10, u11, u12, u13, u14, u15]).alloc (.map #[] 0)
    rw [hnV] at this
    exact this
  have sse : Blk we (nV + 1) 50 (setP p) := by
    rw [HUL.out]
    refine (ge.block (nV + 1) (by show nV + 1 < ((V1.alloc (.map #[] 0)).alloc (.cells #[u0, u1, u2, u3, u4, u5, u6, u7, u8, u9, u10, u11, u12, u13, u14, u15] 50)).heap.size; rw [World.size_alloc, nM]; omega) (by simp)).trans ?_
    have := Blk.new (V1.alloc (.map #[] 0)) 50 #[u0, u1, u2, u3, u4, u5, u6, u7, u8, u9, u10, u11, u12, u13, u14, u15]
    rw [nM] at this
    exact this
  have ssc : Blk (wc.alloc (.cells #[u0, u1, u2, u3, u4, u5, u6, u7, u8, u9, u10, u11, u12, u13, u14, u15] 50)) nC 50 (setP p) := by
    rw [HUL.out, ← hnC]
    exact Blk.new wc _ _
  have bwc : Below V1.heap.size V1 wc := ((Below.refl V1.heap.size V1).drew.alloc (Nat.le_refl _) (.map #[] 0)).grown gc (by show _ ≤ (V1.alloc (.map #[] 0)).heap.size; omega) (fun k hk => by simp only [Option.some.injEq] at hk; omega)
  have bwd : Below V1.heap.size V1 wd := (((Below.refl V1.heap.size V1).drew.alloc (Nat.le_refl _) (.cells #[u0, u1, u2, u3, u4, u5, u6, u7, u8, u9, u10, u11, u12, u13, u14, u15] 50)).alloc (by rw [World.size_alloc]; exact Nat.le_succ V1.heap.size) (.map #[] 0)).grown gd (by show _ ≤ ((V1.alloc (.cells #[u0, u1, u2, u3, u4, u5, u6, u7, u8, u9, u10, u11, u12, u13, u14, u15] 50)).alloc (.map #[] 0)).heap.size; rw [World.size_alloc, nS]; omega) (fun k hk => by simp only [Option.some.injEq] at hk; omega)
  have bwe : Below V1.heap.size V1 we := (((Below.refl V1.heap.size V1).drew.alloc (Nat.le_refl _) (.map #[] 0)).alloc (by rw [World.size_alloc]; exact Nat.le_succ V1.heap.size) (.cells #[u0, u1, u2, u3, u4, u5, u6, u7, u8, u9, u10, u11, u12, u13, u14, u15] 50)).grown ge (by show _ ≤ ((V1.alloc (.map #[] 0)).alloc (.cells #[u0, u1, u2, u3, u4, u5, u6, u7, u8, u9, u10, u11, u12, u13, u14, u15] 50)).heap.size; rw [World.size_alloc, nM]; omega) (fun k hk => by simp only [Option.some.injEq] at hk; omega)
  have L1 := Lib.hid (show _ ∧ _ ∧ _ from ⟨bwd, ssd, md⟩)
  have L2 := Lib.hid (show _ ∧ _ ∧ _ from ⟨bwe, sse, me⟩)
  have L3 := Lib.hid (show Below V1.heap.size V1 (wc.alloc (.cells #[u0, u1, u2, u3, u4, u5, u6, u7, u8, u9, u10, u11, u12, u13, u14, u15] 50)) ∧ _ ∧ MapS 1 (wc.alloc (.cells #[u0, u1, u2, u3, u4, u5, u6, u7, u8, u9, u10, u11, u12, u13, u14, u15] 50)) nV ([] ++ [p]) from ⟨bwc.alloc (by omega) _, ssc, mc.next ((Below.refl _ _).alloc (Nat.le_refl _) _)⟩)
  clear bwc bwd bwe ssc ssd sse mc md me gc gd ge mM mX mY hps
  rename_i Kk hKk
  have hall : ∀ (gs gm : Nat) (w1 : World), Below V1.heap.size V1 w1 → nV ≤ gs → nV ≤ gm → Blk w1 gs 50 (setP p) → MapS 1 w1 gm [p] → Kk { tmps := #[.agg #[.int .i64 m, .int .i64 e, .slice (some ⟨b1, o1, none⟩) la ca, .slice (some ⟨b2, o2, none⟩) lb cb], .pointer (some ⟨w.heap.size, 0, none⟩), .slice none 0 0, .pointer (some ⟨g1, 0, none⟩), .slice (some ⟨gs, 0, none⟩) 1 1, .map (some gm), undef, undef, undef, undef, undef, .agg #[.int .i64 m, .int .i64 e, .slice (some ⟨b1, o1, none⟩) la ca, .slice (some ⟨b2, o2, none⟩) lb cb], .agg (setP p), .agg #[u0, u1, u2, u3, u4, u5, u6, u7, u8, u9, u10, u11, u12, u13, u14, u15], .slice (some ⟨gs, 0, none⟩) 1 1, .map (some gm), .agg #[u0, u1, u2, u3, u4, u5, u6, u7, u8, u9, u10, u11, u12, u13, u14, u15], .map (some gm), undef, undef, undef, undef, undef, undef, undef, undef, undef, undef, undef, undef, undef, undef, undef, undef, undef, undef, undef, undef, undef, undef, undef, undef, undef, undef, undef, undef, undef, undef, undef], defers := [] } w1 := by
    intro gs gm w1 hb1 hgs hgm hbs hms
    refine hKk _ _ ?_
    obtain ⟨i0, hi, hz0, hz1, hz2⟩ := info_parts set_infoR
    have BW1 := Lib.hid (below_step B2.out hb1)
    have KW1 := Lib.hid (K2.out.next hb1)
    have gwn : w.heap.size < nV := by have := K2.out.lt; omega
    have hn1 : nV ≤ w1.heap.size := by have := hb1.size; omega
    have OW1 := Lib.hid (show w1.ownsRow nV 50 16 (.slice (some ⟨gs, 0, none⟩) 1 1) ([p] : List (Nat → Bool)).length (setsV [p]) from ⟨by rw [setsV_len], .inr ⟨gs, 1, setP p, rfl, hgs, hbs, Nat.le_refl _, by unfold maxLen; omega, by rw [setP_size], by simp [setsV, List.take_of_length_le, setP_size]⟩⟩)
    have MW1 := Lib.hid hms
    have c0 := KW1.out.cell 0
    have c1 := KW1.out.cell 1
    have c2 := KW1.out.cell 2
    have c3 := KW1.out.cell 3
    simp only [List.getElem?_toArray, List.getElem?_cons_zero, List.getElem?_cons_succ] at c0 c1 c2 c3
    clear hb1 hbs hms
    go_wp2
    go_loopg [4, 20] m (fun g2 vs vi wr => ∃ (k : Nat) (As : List (Nat → Bool)), k ≤ m ∧ m ≤ k + g2 ∧ vi = .int .i64 k ∧ wr.ownsRow nV 50 16 vs As.length (setsV As) ∧ MapS As.length wr gm As ∧ As.Nodup ∧ (∀ q ∈ As, Idl m S P q) ∧ (∀ q, Rch m S P k q → q ∈ As) ∧ 1 ≤ As.length ∧ Below w.heap.size w wr ∧ nV ≤ wr.heap.size ∧ Blk wr w.heap.size 25 #[.int .i64 m, .int .i64 e, .slice (some ⟨b1, o1, none⟩) la ca, .slice (some ⟨b2, o2, none⟩) lb cb])
    case atStart => exact ⟨0, [p], Nat.zero_le _, by omega, rfl, OW1.out, MW1.out, by simp, fun q hq => by rw [List.mem_singleton] at hq; rw [hq]; exact HPI.out, fun q hq => by rw [List.mem_singleton, show q = mulB m P 0 from hq, HP.out], by simp, BW1.out, hn1, KW1.out⟩
    case round =>
      obtain ⟨wo, rfl⟩ : ∃ x, x = wr := ⟨_, rfl⟩
      obtain ⟨k, As, hk, hg2, rfl, hown, hmap, hnd, hid, hrc, hap, hb, hnw, hbk⟩ := hrel
      have hsh : As.length ≤ 32768 := idls_short hm' hnd hid
      have BW := Lib.hid hb
      have OW := Lib.hid hown
      have MW := Lib.hid hmap
      have KW := Lib.hid hbk
      have HND := Lib.hid hnd
      have HID := Lib.hid hid
      have HRC := Lib.hid hrc
      clear hb hown hmap hbk hnd hid hrc c0 c1 c2 c3
      by_cases hlt : k < m
      · obtain ⟨q, hq⟩ : ∃ q, mulB m P k = q := ⟨_, rfl⟩
        have HQ := Lib.hid hq
        have HQI := Lib.hid (show Idl m S P q by rw [← hq]; exact R.mul_idl hlt)
        have hiq := set_info (setP_size (p := q))
        have hoq := setP_one (p := q)
        have holdq : (#[.bool false, .bool false, .bool false, .bool false, .bool false, .bool false, .bool false, .bool false, .bool false, .bool false, .bool false, .bool false, .bool false, .bool false, .bool false, .bool false] : Array Value).size = (setP q).size := by rw [setP_size]; rfl
        obtain ⟨c0, c1, c2, c3⟩ := blk4 KW.out
        clear hq
        go_upto_region 6 with (fail)
        go_wp2_with (fail)
        refine (multiples_any k m e b1 o1 la ca b2 o2 lb cb S P wo (HR0.out.next BW.out) hlt).mono ?_
        rw [HQ.out]
        rintro e2 w2 ⟨rfl, hb2⟩
        have BW2 := Lib.hid (below_step BW.out hb2)
        have s3 := hb2.size
        obtain ⟨g7, hg7⟩ : ∃ g, w2.heap.size = g := ⟨_, rfl⟩
        have OW2 := Lib.hid (own_nextK OW.out hb2)
        have MW2 := Lib.hid (MW.out.next hb2)
        have KW2 := Lib.hid (KW.out.next hb2)
        clear hb2 c0 c1 c2 c3
        have KN2 : Blk (w2.alloc (.cells #[.bool false, .bool false, .bool false, .bool false, .bool false, .bool false, .bool false, .bool false, .bool false, .bool false, .bool false, .bool false, .bool false, .bool false, .bool false, .bool false] 50)) g7 50 #[.bool false, .bool false, .bool false, .bool false, .bool false, .bool false, .bool false, .bool false, .bool false, .bool false, .bool false, .bool false, .bool false, .bool false, .bool false, .bool false] := by rw [← hg7]; exact Blk.new _ _ _
        go_upto_region 7 with (refine wpList_store_row rfl 50 (.tmp 7) (.tmp 25) rfl g7 (setP q) rfl rfl _ _ KN2 hiq holdq hoq ?_)
        obtain ⟨V2, hV2⟩ : ∃ V2, (w2.alloc (.cells #[.bool false, .bool false, .bool false, .bool false, .bool false, .bool false, .bool false, .bool false, .bool false, .bool false, .bool false, .bool false, .bool false, .bool false, .bool false, .bool false] 50)).setRow g7 (setP q) = V2 := ⟨_, rfl⟩
        have bV2 : Below w2.heap.size w2 V2 := by subst hV2 hg7; exact set_row.2
        have kV2 : Blk V2 g7 50 (setP q) := by subst hV2 hg7; exact set_row.1
        rw [hV2]
        have BV := Lib.hid (below_step BW2.out bV2)
        have OV := Lib.hid (own_nextK OW2.out bV2)
        have MV := Lib.hid (MW2.out.next bV2)
        have KV := Lib.hid (KW2.out.next bV2)
        have GV := Lib.hid kV2
        have sV2 := bV2.size
        have l7 := kV2.lt
        have hs7 : ∀ g, u4.ownBlock = some g → g ≠ g7 := fun g e => by have := (OW2.out.lt g e).2; omega
        obtain ⟨gS, cS, rfl, cur, hcur, htk⟩ : ∃ g c, u4 = .slice (some ⟨g, 0, none⟩) As.length c ∧ ∃ cur, Blk V2 g 50 cur ∧ cur.toList.take (As.length * 16) = setsV As := by
          rcases OV.out.2 with ⟨_, h0⟩ | ⟨g, c, cur, e, _, h3, _, _, _, h6⟩
          · omega
          · exact ⟨g, c, e, cur, h3, h6⟩
        have SN := Lib.hid (show ∀ i, i < As.length * 16 → V2.cell? ⟨gS, i, none⟩ = (setsV As)[i]? from fun i hi => by rw [hcur.cell, ← Array.getElem?_toList, ← htk, List.getElem?_take, if_pos hi])
        have lgS := hcur.lt
        have hSm : gS ≠ gm := fun e => MV.out.ne_blk (e ▸ hcur)
        have l7m : g7 ≠ gm := fun e => MV.out.ne_blk (e ▸ kV2)
        have lrm : w.heap.size ≠ gm := by omega
        have H7 := Lib.hid hs7
        obtain ⟨n0, hn0⟩ : ∃ n, As.length = n := ⟨_, rfl⟩
        have HN0 := Lib.hid hn0
        rw [hn0] at hsh hap SN ⊢
        clear hV2 bV2 kV2 KN2 hcur htk hs7 hn0
        go_wp2
        go_loopg [4, 28] n0 (fun g3 vs vj wr => ∃ (j : Nat) (Bs : List (Nat → Bool)), j ≤ n0 ∧ n0 ≤ j + g3 ∧ vj = .int .i64 j ∧ wr.ownsRow nV 50 16 vs Bs.length (setsV Bs) ∧ MapS Bs.length wr gm Bs ∧ Bs.Nodup ∧ (∀ r ∈ Bs, Idl m S P r) ∧ (∀ r ∈ As, r ∈ Bs) ∧ n0 ≤ Bs.length ∧ (∀ j', j' < j → opsB m S ((As[j']?).getD p) q ∈ Bs) ∧ Below w.heap.size w wr ∧ V2.heap.size ≤ wr.heap.size ∧ Blk wr w.heap.size 25 #[.int .i64 m, .int .i64 e, .slice (some ⟨b1, o1, none⟩) la ca, .slice (some ⟨b2, o2, none⟩) lb cb] ∧ Blk wr g7 50 (setP q) ∧ (∀ g, vs.ownBlock = some g → g ≠ g7) ∧ (∀ i, i < n0 * 16 → wr.cell? ⟨gS, i, none⟩ = (setsV As)[i]?))
        case atStart => exact ⟨0, As, Nat.zero_le _, by omega, rfl, by rw [HN0.out]; exact HN0.out ▸ OV.out, MV.out, HND.out, HID.out, fun _ h => h, by rw [HN0.out]; exact Nat.le_refl _, fun j' h => absurd h (by omega), BV.out, Nat.le_refl _, KV.out, GV.out, HN0.out ▸ H7.out, SN.out⟩
        case round =>
          obtain ⟨wi, rfl⟩ : ∃ x, x = wr := ⟨_, rfl⟩
          obtain ⟨j, Bs, hj, hg3, rfl, hown, hmap, hnd, hid, hsub, hnB, hcl, hb, hsV, hbk, hb7, h7, hsn⟩ := hrel
          have hshB : Bs.length ≤ 32768 := idls_short hm' hnd hid
          have BJ := Lib.hid hb
          have OJ := Lib.hid hown
          have MJ := Lib.hid hmap
          have KJ := Lib.hid hbk
          have GJ := Lib.hid hb7
          have HNB := Lib.hid hnd
          have HIB := Lib.hid hid
          have HSUB := Lib.hid hsub
          have HCLB := Lib.hid hcl
          have H7J := Lib.hid h7
          have SNJ := Lib.hid hsn
          clear hb hown hmap hbk hb7 hnd hid hsub hcl h7 hsn
          by_cases hlt2 : j < n0
          · obtain ⟨r, hr⟩ : ∃ r, As[j]? = some r := ⟨_, List.getElem?_eq_getElem (by rw [HN0.out]; exact hlt2)⟩
            have HRI := Lib.hid (HID.out r (List.mem_of_getElem? hr))
            have hir := set_info (setP_size (p := r))
            have hor := setP_one (p := r)
            have holdr : (#[.bool false, .bool false, .bool false, .bool false, .bool false, .bool false, .bool false, .bool false, .bool false, .bool false, .bool false, .bool false, .bool false, .bool false, .bool false, .bool false] : Array Value).size = (setP r).size := by rw [setP_size]; rfl
            have hrange : wi.rangeAt gS (j * 16) (setP r).toList := fun i v hv => by
              have hi : i < 16 := by have := (List.getElem?_eq_some_iff.1 hv).1; rwa [Array.length_toList, setP_size] at this
              rw [SNJ.out (j * 16 + i) (by omega), setsV_get hr hi]
              rw [Array.getElem?_toList, setP_get hi] at hv
              exact hv
            have HRR := Lib.hid hr
            obtain ⟨g9, hg9⟩ : ∃ g, wi.heap.size = g := ⟨_, rfl⟩
            have KN9 : Blk (wi.alloc (.cells #[.bool false, .bool false, .bool false, .bool false, .bool false, .bool false, .bool false, .bool false, .bool false, .bool false, .bool false, .bool false, .bool false, .bool false, .bool false, .bool false] 50)) g9 50 #[.bool false, .bool false, .bool false, .bool false, .bool false, .bool false, .bool false, .bool false, .bool false, .bool false, .bool false, .bool false, .bool false, .bool false, .bool false, .bool false] := by rw [← hg9]; exact Blk.new _ _ _
            clear hr
            go_upto_region 10 with (first
              | (refine wpList_load_mid rfl 50 (.tmp 30) rfl gS (j * 16) rfl (setP r).toList _ hrange Tryz.underlying50 rfl (by rw [Array.length_toList]; exact hir) ?_; rw [Array.toArray_toList])
              | (refine wpList_store_row rfl 50 (.tmp 9) (.tmp 31) rfl g9 (setP r) rfl rfl _ _ KN9 hir holdr hor ?_))
            obtain ⟨V9, hV9⟩ : ∃ V, (wi.alloc (.cells #[.bool false, .bool false, .bool false, .bool false, .bool false, .bool false, .bool false, .bool false, .bool false, .bool false, .bool false, .bool false, .bool false, .bool false, .bool false, .bool false] 50)).setRow g9 (setP r) = V := ⟨_, rfl⟩
            have bV9 : Below wi.heap.size wi V9 := by subst hV9 hg9; exact set_row.2
            have kV9 : Blk V9 g9 50 (setP r) := by subst hV9 hg9; exact set_row.1
            rw [hV9]
            have B9 := Lib.hid (below_step BJ.out bV9)
            have K9 := Lib.hid (KJ.out.next bV9)
            have G9 := Lib.hid kV9
            have G79 := Lib.hid (GJ.out.next bV9)
            have C9 := Lib.hid bV9
            obtain ⟨u, hu⟩ : ∃ u, opsB m S r q = u := ⟨_, rfl⟩
            have HU := Lib.hid hu
            have HUI := Lib.hid (show Idl m S P u by rw [← hu]; exact R.sum_idl HRI.out HQI.out)
            have hu16 : Sm16 u := fun i hi => Nat.lt_of_lt_of_le (HUI.out.lt i hi) hm'
            have hiu := set_info (setP_size (p := u))
            have hou := setP_one (p := u)
            have holdu : (#[.bool false, .bool false, .bool false, .bool false, .bool false, .bool false, .bool false, .bool false, .bool false, .bool false, .bool false, .bool false, .bool false, .bool false, .bool false, .bool false] : Array Value).size = (setP u).size := by rw [setP_size]; rfl
            obtain ⟨c0, c1, c2, c3⟩ := blk4 K9.out
            clear hV9 bV9 kV9 KN9 hrange hu
            go_wp2_with (first
              | (refine wpList_load_row rfl 50 (.tmp 9) rfl g9 rfl _ (setP r) (0, 0) _ G9.out Tryz.underlying50 rfl hir ?_)
              | (refine wpList_load_row rfl 50 (.tmp 7) rfl g7 rfl _ (setP q) (0, 0) _ G79.out Tryz.underlying50 rfl hiq ?_))
            refine (idealSum_any r q m e b1 o1 la ca b2 o2 lb cb S P V9 (HR0.out.next B9.out) HRI.out.lt HQI.out.lt).mono ?_
            rw [HU.out]
            rintro e3 w3 ⟨rfl, hb3⟩
            have C3 := Lib.hid (below_step C9.out hb3)
            obtain ⟨g10, hg10⟩ : ∃ g, w3.heap.size = g := ⟨_, rfl⟩
            have KN10 : Blk (w3.alloc (.cells #[.bool false, .bool false, .bool false, .bool false, .bool false, .bool false, .bool false, .bool false, .bool false, .bool false, .bool false, .bool false, .bool false, .bool false, .bool false, .bool false] 50)) g10 50 #[.bool false, .bool false, .bool false, .bool false, .bool false, .bool false, .bool false, .bool false, .bool false, .bool false, .bool false, .bool false, .bool false, .bool false, .bool false, .bool false] := by rw [← hg10]; exact Blk.new _ _ _
            clear hb3 c0 c1 c2 c3
            go_upto_region 11 with (refine wpList_store_row rfl 50 (.tmp 10) (.tmp 35) rfl g10 (setP u) rfl rfl _ _ KN10 hiu holdu hou ?_)
            obtain ⟨V10, hV10⟩ : ∃ V, (w3.alloc (.cells #[.bool false, .bool false, .bool false, .bool false, .bool false, .bool false, .bool false, .bool false, .bool false, .bool false, .bool false, .bool false, .bool false, .bool false, .bool false, .bool false] 50)).setRow g10 (setP u) = V := ⟨_, rfl⟩
            have bV10 : Below w3.heap.size w3 V10 := by subst hV10 hg10; exact set_row.2
            have kV10 : Blk V10 g10 50 (setP u) := by subst hV10 hg10; exact set_row.1
            rw [hV10]
            have C10 := Lib.hid (below_step C3.out bV10)
            have B10 := Lib.hid (below_step BJ.out C10.out)
            have K10 := Lib.hid (KJ.out.next C10.out)
            have G10 := Lib.hid kV10
            have G710 := Lib.hid (GJ.out.next C10.out)
            have O10 := Lib.hid (own_nextK OJ.out C10.out)
            have M10 := Lib.hid (MJ.out.next C10.out)
            have sz10 := C10.out.size
            have l10 := kV10.lt
            have SN10 := Lib.hid (show ∀ i, i < n0 * 16 → V10.cell? ⟨gS, i, none⟩ = (setsV As)[i]? from fun i hi => (C10.out.cell (p := ⟨gS, i, none⟩) (show gS < wi.heap.size by omega)).trans (SNJ.out i hi))
            have CL := Lib.hid (show ∀ Cs : List (Nat → Bool), (∀ x ∈ Bs, x ∈ Cs) → u ∈ Cs → ∀ j', j' < j + 1 → opsB m S ((As[j']?).getD p) q ∈ Cs from fun Cs h1 h2 j' hj' => by
              by_cases e : j' = j
              · subst e; rw [HRR.out, Option.getD_some, HU.out]; exact h2
              · exact h1 _ (HCLB.out j' (by omega)))
            clear hV10 bV10 kV10 KN10
            by_cases hin : u ∈ Bs
            · have hlk := M10.out.yes hu16 hin
              have HINB := Lib.hid hin
              clear hin
              go_wp2_with (refine wpList_load_row rfl 50 (.tmp 10) rfl g10 rfl _ (setP u) (0, 0) _ G10.out Tryz.underlying50 rfl hiu ?_)
              go_roundg (n0 - (j + 1))
              case measure => omega
              case rel => exact ⟨j + 1, Bs, by omega, by omega, by go_num, O10.out, M10.out, HNB.out, HIB.out, HSUB.out, hnB, CL.out Bs (fun _ h => h) HINB.out, B10.out, Nat.le_trans hsV sz10, K10.out, G710.out, H7J.out, SN10.out⟩
            · have hlk := M10.out.no hu16 hin
              have HINB := Lib.hid hin
              obtain ⟨w11, hup, hM11, hg11⟩ := M10.out.put hu16 (by omega)
              have hrow := M10.out.ne_row O10.out
              have nb : ∀ {g : Nat} {t : TypeId} {cs : Array Value}, Blk V10 g t cs → Blk w11 g t cs := fun {g t cs} h => (hg11.block g h.lt (fun e => by simp only [Option.some.injEq] at e; subst e; exact M10.out.ne_blk h)).trans h
              have K11 := Lib.hid (nb K10.out)
              have G11 := Lib.hid (nb G10.out)
              have G711 := Lib.hid (nb G710.out)
              have O11 := Lib.hid (World.ownsRow.kept O10.out hg11 (.inr (fun e => hrow e.symm)))
              have M11 := Lib.hid hM11
              have B11 := Lib.hid (B10.out.grown hg11 (by have := B10.out.size; omega) (fun k e => by simp only [Option.some.injEq] at e; omega))
              have sz11 := hg11.size
              have SN11 := Lib.hid (show ∀ i, i < n0 * 16 → w11.cell? ⟨gS, i, none⟩ = (setsV As)[i]? from fun i hi => (World.cell?_of_block (a := ⟨gS, i, none⟩) (hg11.block gS (by omega) (fun e => hSm (by simpa using e)))).trans (SN10.out i hi))
              have G11L := Lib.hid (show Blk w11 g10 50 _ from setP_list u ▸ G11.out)
              have HBN := Lib.hid (show Blk (w11.alloc (.cells #[.bool (u 0), .bool (u 1), .bool (u 2), .bool (u 3), .bool (u 4), .bool (u 5), .bool (u 6), .bool (u 7), .bool (u 8), .bool (u 9), .bool (u 10), .bool (u 11), .bool (u 12), .bool (u 13), .bool (u 14), .bool (u 15)] 50)) w11.heap.size 50 (setP u) by rw [setP_list]; exact Blk.new _ _ _)
              have hbn : Below w11.heap.size w11 (w11.alloc (.cells #[.bool (u 0), .bool (u 1), .bool (u 2), .bool (u 3), .bool (u 4), .bool (u 5), .bool (u 6), .bool (u 7), .bool (u 8), .bool (u 9), .bool (u 10), .bool (u 11), .bool (u 12), .bool (u 13), .bool (u 14), .bool (u 15)] 50)) := (Below.refl _ _).alloc (Nat.le_refl _) _
              have CN := Lib.hid hbn
              clear hM11 hg11 nb hrow hin hbn
              go_wp2_with (first
                | (refine wpList_load_row rfl 50 (.tmp 10) rfl g10 rfl _ (setP u) (0, 0) _ G10.out Tryz.underlying50 rfl hiu ?_)
                | (refine wpList_update_run V10 w11 rfl _ _ _ _ rfl _ _ _ rfl rfl rfl hup ?_)
                | (refine wpList_load_row rfl 50 (.tmp 10) rfl g10 rfl _ _ (0, 0) _ G11L.out Tryz.underlying50 rfl rfl ?_)
                | (at_builtin; refine wpList_append_shows rfl _ _ 62 rfl nV 50 i0 (.agg #[.bool false, .bool false, .bool false, .bool false, .bool false, .bool false, .bool false, .bool false, .bool false, .bool false, .bool false, .bool false, .bool false, .bool false, .bool false, .bool false]) 16 16 Tryz.underlying62 hi hz0 hz1 hz2 rfl (by decide) _ _ _ rfl (O11.out.alloc _) ⟨w11.heap.size, 0, none⟩ 1 1 (setP u).toList rfl set_len (set_news HBN.out) set_cells (by unfold maxLen; omega) (by omega) (by rw [World.size_alloc]; omega) ?_; intro v12 w12 hown12 hg12 hloc12 hsh12; have O12 := Lib.hid hown12; have GR12 := Lib.hid hg12; have LC12 := Lib.hid hloc12; have SH12 := Lib.hid hsh12; clear hown12 hg12 hloc12 hsh12))
              go_roundg (n0 - (j + 1))
              case measure => omega
              case rel =>
                have sz12 := GR12.out.size
                rw [World.size_alloc] at sz12
                have nb2 : ∀ {g : Nat} {t : TypeId} {cs : Array Value}, Blk w11 g t cs → (∀ g', u4.ownBlock = some g' → g' ≠ g) → Blk w12 g t cs := fun {g t cs} h hne => (GR12.out.block g (by rw [World.size_alloc]; have := h.lt; omega) (fun e => hne g e.symm rfl)).trans (h.alloc _)
                refine ⟨j + 1, Bs ++ [u], by omega, by omega, by go_num, ?_, ?_, ?_, ?_, fun x hx => List.mem_append_left _ (HSUB.out x hx), ?_, CL.out _ (fun x hx => List.mem_append_left _ hx) (by simp), ?_, by omega, ?_, ?_, fun g e => ?_, fun i hi => ?_⟩
                · have := O12.out
                  rw [← setsV_snoc] at this
                  rw [List.length_append]
                  exact this
                · rw [List.length_append]
                  exact (M11.out.next CN.out).kept GR12.out (fun e => (M11.out.ne_row O11.out) e)
                · rw [List.nodup_append]
                  exact ⟨HNB.out, by simp, fun a ha b hb e => by rw [List.mem_singleton] at hb; subst hb; subst e; exact HINB.out ha⟩
                · intro x hx
                  rw [List.mem_append, List.mem_singleton] at hx
                  rcases hx with h | rfl
                  · exact HIB.out x h
                  · exact HUI.out
                · rw [List.length_append]; omega
                · exact (below_step B11.out CN.out).grown GR12.out (by rw [World.size_alloc]; have := B11.out.size; omega) (fun k e => by have := (O11.out.lt k e).1; omega)
                · exact nb2 K11.out (fun g' e e2 => by have := (O11.out.lt g' e).1; omega)
                · exact nb2 G711.out (fun g' e => H7J.out g' e)
                · rcases LC12.out with h | h
                  · exact H7J.out g (h ▸ e)
                  · rw [e] at h
                    simp only [World.size_alloc, Option.some.injEq] at h
                    omega
                · have e2 : (w11.alloc (.cells #[.bool (u 0), .bool (u 1), .bool (u 2), .bool (u 3), .bool (u 4), .bool (u 5), .bool (u 6), .bool (u 7), .bool (u 8), .bool (u 9), .bool (u 10), .bool (u 11), .bool (u 12), .bool (u 13), .bool (u 14), .bool (u 15)] 50)).cell? ⟨gS, i, none⟩ = (setsV As)[i]? := (CN.out.cell (p := ⟨gS, i, none⟩) (show gS < w11.heap.size by omega)).trans (SN11.out i hi)
                  by_cases hgS : u4.ownBlock = some gS
                  · exact (SH12.out gS hgS i (by omega)).trans e2
                  · exact (World.cell?_of_block (a := ⟨gS, i, none⟩) (GR12.out.block gS (by rw [World.size_alloc]; omega) (fun e => hgS e.symm))).trans e2
          · obtain rfl : j = n0 := by omega
            go_wp2
            go_roundg (m - (k + 1))
            case measure => omega
            case rel =>
              refine ⟨k + 1, Bs, by omega, by omega, by go_num, OJ.out, MJ.out, HNB.out, HIB.out, fun x hx => ?_, by omega, BJ.out, by omega, KJ.out⟩
              rcases hx with h | ⟨y, h1, h2⟩
              · exact HSUB.out x (HRC.out x h)
              · obtain ⟨j', hj', hje⟩ := List.getElem_of_mem (HRC.out y h1)
                have := HCLB.out j' (by rw [← HN0.out]; exact hj')
                rw [List.getElem?_eq_getElem hj', Option.getD_some, hje] at this
                rw [h2, HQ.out]
                exact this
      · obtain rfl : k = m := by omega
        go_wp2
        go_ret
        exact ⟨u4, As, rfl, own_base OW.out (by omega), HND.out, fun x => ⟨HID.out x, fun hx => HRC.out x (R.all_from (A := Rch k S P) rfl (fun _ _ _ h => .inl h) (fun _ _ _ h => .inr ⟨_, h, rfl⟩) hx)⟩, BW.out⟩
  go_simp
  refine wp_region_held_drew (S := fun w' => w'.heap[g1]? = some (.cells #[u0, u1, u2, u3, u4, u5, u6, u7, u8, u9, u10, u11, u12, u13, u14, u15] 50 (0, 0))) (by kernel_rfl) bb1 (fun hHeld => ?_)
  refine wpAnyH_take (i := 0) (v := .agg #[u0, u1, u2, u3, u4, u5, u6, u7, u8, u9, u10, u11, u12, u13, u14, u15]) rfl (by kernel_rfl) (by kernel_rfl) (by kernel_rfl) (fun _ _ _ h => h) (Or.inl ⟨by rfl, fun _ hSw => run_load_blk rfl rfl hSw rfl⟩) (by assumption) ?_
  (try simp only [List.getElem_toArray, List.getElem_cons_zero, Act.put, List.setIfInBounds_toArray, List.set_cons_zero, List.set_cons_succ])
  refine wpAnyH_take (i := 3) (v := .agg #[u0, u1, u2, u3, u4, u5, u6, u7, u8, u9, u10, u11, u12, u13, u14, u15]) rfl (by kernel_rfl) (by kernel_rfl) (by kernel_rfl) (fun _ _ _ h => h) (Or.inl ⟨by rfl, fun _ hSw => run_load_blk rfl rfl hSw rfl⟩) (by assumption) ?_
  (try simp only [List.getElem_toArray, List.getElem_cons_zero, List.getElem_cons_succ, Act.put, List.setIfInBounds_toArray, List.set_cons_zero, List.set_cons_succ])
  refine wpAnyH_ready (rs := [1, 2]) (by kernel_rfl) (by simp) ?_
  refine AllReadyH.cons (o := _) rfl (fun K hK => ?_) (AllReadyH.cons (o := _) rfl (fun K hK => ?_) AllReadyH.nil)
  · (try simp only [List.getElem_toArray, List.getElem_cons_zero, List.getElem_cons_succ, Act.put, List.setIfInBounds_toArray, List.set_cons_zero, List.set_cons_succ])
    go_simp
    refine hK.out _ _ (bb1.alloc _) (fun hHeld => ?_)
    clear hK K
    (try simp only [List.getElem_toArray, List.getElem_cons_zero, List.getElem_cons_succ, Act.put, List.setIfInBounds_toArray, List.set_cons_zero, List.set_cons_succ])
    refine wpAnyH_take (i := 6) (v := .slice (some ⟨nV, 0, none⟩) 1 1) rfl (by kernel_rfl) (by kernel_rfl) (by kernel_rfl) (fun _ _ _ h => h) (Or.inl ⟨by rfl, fun _ _ => rfl⟩) (by assumption) ?_
    (try simp only [List.getElem_toArray, List.getElem_cons_zero, List.getElem_cons_succ, Act.put, List.setIfInBounds_toArray, List.set_cons_zero, List.set_cons_succ])
    refine wpAnyH_ready (rs := [2]) (by kernel_rfl) (by simp) ?_
    refine AllReadyH.cons (o := _) rfl (fun K hK => ?_) AllReadyH.nil
    (try simp only [List.getElem_toArray, List.getElem_cons_zero, List.getElem_cons_succ, Act.put, List.setIfInBounds_toArray, List.set_cons_zero, List.set_cons_succ])
    go_simp
    refine hK.out _ _ ((bb1.alloc _).alloc _) (fun hHeld => ?_)
    clear hK K
    (try simp only [List.getElem_toArray, List.getElem_cons_zero, List.getElem_cons_succ, Act.put, List.setIfInBounds_toArray, List.set_cons_zero, List.set_cons_succ])
    refine wpAnyH_ready (rs := [4]) (by kernel_rfl) (by simp) ?_
    refine AllReadyH.cons (o := _) rfl (fun K hK => ?_) AllReadyH.nil
    (try simp only [List.getElem_toArray, List.getElem_cons_zero, List.getElem_cons_succ, Act.put])
    go_simp
    refine hK.out _ _ bbd (fun hHeld => ?_)
    clear hK K
    (try simp only [List.getElem_toArray, List.getElem_cons_zero, List.getElem_cons_succ, Act.put, List.setIfInBounds_toArray, List.set_cons_zero, List.set_cons_succ])
    refine wpAnyH_take (i := 5) (v := .map (some (nV + 1))) rfl (by kernel_rfl) (by kernel_rfl) (by kernel_rfl) (fun _ _ _ h => h) (Or.inl ⟨by rfl, fun _ _ => rfl⟩) (by assumption) ?_
    (try simp only [List.getElem_toArray, List.getElem_cons_zero, List.getElem_cons_succ, Act.put, List.setIfInBounds_toArray, List.set_cons_zero, List.set_cons_succ])
    refine wpAnyH_take (i := 7) (v := .map (some (nV + 1))) rfl (by kernel_rfl) (by kernel_rfl) (by kernel_rfl) (fun _ _ _ h => h) (Or.inl ⟨by rfl, fun _ _ => rfl⟩) (by assumption) ?_
    (try simp only [List.getElem_toArray, List.getElem_cons_zero, List.getElem_cons_succ, Act.put, List.setIfInBounds_toArray, List.set_cons_zero, List.set_cons_succ])
    refine wpAnyH_done (by kernel_rfl) ?_ _
    exact hall nV (nV + 1) wd L1.out.1 (Nat.le_refl _) (Nat.le_succ _) L1.out.2.1 L1.out.2.2
  · (try simp only [List.getElem_toArray, List.getElem_cons_zero, List.getElem_cons_succ, Act.put, List.setIfInBounds_toArray, List.set_cons_zero, List.set_cons_succ])
    go_simp
    refine hK.out _ _ (bb1.alloc _) (fun hHeld => ?_)
    clear hK K
    (try simp only [List.getElem_toArray, List.getElem_cons_zero, List.getElem_cons_succ, Act.put, List.setIfInBounds_toArray, List.set_cons_zero, List.set_cons_succ])
    refine wpAnyH_ready (rs := [1, 4]) (by kernel_rfl) (by simp) ?_
    refine AllReadyH.cons (o := _) rfl (fun K hK => ?_) (AllReadyH.cons (o := _) rfl (fun K hK => ?_) AllReadyH.nil)
    · (try simp only [List.getElem_toArray, List.getElem_cons_zero, List.getElem_cons_succ, Act.put, List.setIfInBounds_toArray, List.set_cons_zero, List.set_cons_succ])
      go_simp
      refine hK.out _ _ ((bb1.alloc _).alloc _) (fun hHeld => ?_)
      clear hK K
      (try simp only [List.getElem_toArray, List.getElem_cons_zero, List.getElem_cons_succ, Act.put, List.setIfInBounds_toArray, List.set_cons_zero, List.set_cons_succ])
      refine wpAnyH_take (i := 6) (v := .slice (some ⟨nV + 1, 0, none⟩) 1 1) rfl (by kernel_rfl) (by kernel_rfl) (by kernel_rfl) (fun _ _ _ h => h) (Or.inl ⟨by rfl, fun _ _ => rfl⟩) (by assumption) ?_
      (try simp only [List.getElem_toArray, List.getElem_cons_zero, List.getElem_cons_succ, Act.put, List.setIfInBounds_toArray, List.set_cons_zero, List.set_cons_succ])
      refine wpAnyH_ready (rs := [4]) (by kernel_rfl) (by simp) ?_
      refine AllReadyH.cons (o := _) rfl (fun K hK => ?_) AllReadyH.nil
      (try simp only [List.getElem_toArray, List.getElem_cons_zero, List.getElem_cons_succ, Act.put])
      go_simp
      refine hK.out _ _ bbe (fun hHeld => ?_)
      clear hK K
      (try simp only [List.getElem_toArray, List.getElem_cons_zero, List.getElem_cons_succ, Act.put, List.setIfInBounds_toArray, List.set_cons_zero, List.set_cons_succ])
      refine wpAnyH_take (i := 5) (v := .map (some nV)) rfl (by kernel_rfl) (by kernel_rfl) (by kernel_rfl) (fun _ _ _ h => h) (Or.inl ⟨by rfl, fun _ _ => rfl⟩) (by assumption) ?_
      (try simp only [List.getElem_toArray, List.getElem_cons_zero, List.getElem_cons_succ, Act.put, List.setIfInBounds_toArray, List.set_cons_zero, List.set_cons_succ])
      refine wpAnyH_take (i := 7) (v := .map (some nV)) rfl (by kernel_rfl) (by kernel_rfl) (by kernel_rfl) (fun _ _ _ h => h) (Or.inl ⟨by rfl, fun _ _ => rfl⟩) (by assumption) ?_
      (try simp only [List.getElem_toArray, List.getElem_cons_zero, List.getElem_cons_succ, Act.put, List.setIfInBounds_toArray, List.set_cons_zero, List.set_cons_succ])
      refine wpAnyH_done (by kernel_rfl) ?_ _
      exact hall (nV + 1) nV we L2.out.1 (Nat.le_succ _) (Nat.le_refl _) L2.out.2.1 L2.out.2.2
    · (try simp only [List.getElem_toArray, List.getElem_cons_zero, List.getElem_cons_succ, Act.put])
      go_simp
      refine hK.out _ _ bbc (fun hHeld => ?_)
      clear hK K
      (try simp only [List.getElem_toArray, List.getElem_cons_zero, List.getElem_cons_succ, Act.put, List.setIfInBounds_toArray, List.set_cons_zero, List.set_cons_succ])
      refine wpAnyH_take (i := 5) (v := .map (some nV)) rfl (by kernel_rfl) (by kernel_rfl) (by kernel_rfl) (fun _ _ _ h => h) (Or.inl ⟨by rfl, fun _ _ => rfl⟩) (by assumption) ?_
      (try simp only [List.getElem_toArray, List.getElem_cons_zero, List.getElem_cons_succ, Act.put, List.setIfInBounds_toArray, List.set_cons_zero, List.set_cons_succ])
      refine wpAnyH_ready (rs := [1]) (by kernel_rfl) (by simp) ?_
      refine AllReadyH.cons (o := _) rfl (fun K hK => ?_) AllReadyH.nil
      (try simp only [List.getElem_toArray, List.getElem_cons_zero, List.getElem_cons_succ, Act.put, List.setIfInBounds_toArray, List.set_cons_zero, List.set_cons_succ])
      go_simp
      refine hK.out _ _ (bbc.alloc _) (fun hHeld => ?_)
      clear hK K
      (try simp only [List.getElem_toArray, List.getElem_cons_zero, List.getElem_cons_succ, Act.put, List.setIfInBounds_toArray, List.set_cons_zero, List.set_cons_succ])
      refine wpAnyH_take (i := 6) (v := .slice (some ⟨nC, 0, none⟩) 1 1) rfl (by kernel_rfl) (by kernel_rfl) (by kernel_rfl) (fun _ _ _ h => h) (Or.inl ⟨by rfl, fun _ _ => rfl⟩) (by assumption) ?_
      (try simp only [List.getElem_toArray, List.getElem_cons_zero, List.getElem_cons_succ, Act.put, List.setIfInBounds_toArray, List.set_cons_zero, List.set_cons_succ])
      refine wpAnyH_take (i := 7) (v := .map (some nV)) rfl (by kernel_rfl) (by kernel_rfl) (by kernel_rfl) (fun _ _ _ h => h) (Or.inl ⟨by rfl, fun _ _ => rfl⟩) (by assumption) ?_
      (try simp only [List.getElem_toArray, List.getElem_cons_zero, List.getElem_cons_succ, Act.put, List.setIfInBounds_toArray, List.set_cons_zero, List.set_cons_succ])
      refine wpAnyH_done (by kernel_rfl) ?_ _
      exact hall nC nV _ L3.out.1 (by omega) (Nat.le_refl _) L3.out.2.1 L3.out.2.2

end Go.Proofs.YtajoimopahibcaaGreat

