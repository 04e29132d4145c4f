
/- Sets of elements: setOf, and the equality of sets. -/
import Derived.Test.YtocoegekdamlbaaI5
import Derived.Laws.Tables
import Derived.Laws.CopyOwn
namespace Go.Proofs.Ytocoegekdamlbaa
open Go.RowKit Go.Shelf
set_option maxRecDepth 100000
attribute [local go_sem] Oper.semAt_some

/-- A set as an array. -/
def setA (l : List Nat) : Array Value := (Array.range 16).map fun i => .bool (decide (i ∈ l))
theorem setA_size {l : List Nat} : (setA l).size = 16 := by simp [setA]
theorem setA_get {l : List Nat} {i : Nat} (h : i < 16) : (setA l)[i]? = some (.bool (decide (i ∈ l))) := by
  unfold setA
  rw [Array.getElem?_map, Array.getElem?_range, if_pos h]; rfl
theorem setA_one {l : List Nat} : (setA l).all (·.oneCell') = true := by
  rw [Array.all_eq_true_iff_forall_mem]
  intro x hx
  simp only [setA, Array.mem_map] at hx
  obtain ⟨i, _, rfl⟩ := hx
  rfl
theorem setA_set {l : List Nat} {k : Nat} : (setA l).setIfInBounds k (.bool true) = setA (l ++ [k]) := by
  apply Array.ext
  · simp [setA]
  · intro i h1 h2
    have h16 : i < 16 := by rw [setA_size] at h2; exact h2
    rw [Array.getElem_setIfInBounds (by rw [setA_size]; exact h16)]
    simp only [setA, Array.getElem_map, Array.getElem_range, List.mem_append, List.mem_singleton]
    split
    · rename_i e
      subst e
      simp
    · rename_i e
      congr 2
      exact propext ⟨fun h => .inl h, fun h => h.elim id (fun h => absurd h.symm e)⟩
theorem setA_nil : setA [] = #[.bool false, .bool false, .bool false, .bool false, .bool false, .bool false, .bool false, .bool false, .bool false, .bool false, .bool false, .bool false, .bool false, .bool false, .bool false, .bool false] := by
  unfold setA
  rw [show Array.range 16 = #[0, 1, 2, 3, 4, 5, 6, 7, 8, 9, 10, 11, 12, 13, 14, 15] from rfl]
  simp
def finN {m : Nat} (l : List (Fin m)) : List Nat := l.map (·.1)

section
variable {n : Nat} {P : Program} {ops : Array Oper} {rest : List Oper} {o : Oper} {a : Act} {w : World} {Q : Exit → Act → World → Prop}
theorem wpListIn_load_rowW (hgd : o.guard = none) (ty : TypeId) (x : Operand) (ho : o.op = .load ty x)
    (g : Nat) (hx : a.eval x = .pointer (some ⟨g, 0, none⟩)) (t : TypeId) (cs : Array Value) (fr : Nat × Nat) (d : TypeDesc) (hg : w.heap[g]? = some (.cells cs t fr))
    (hu : P.underlying ty = some d) (hd : (match d with | .struct _ | .array _ _ => true | _ => false) = true) (hi : (P.info? ty).map (·.size) = some cs.size)
    (h : wpListIn Fence.wide n P ops Q rest (a.put o.dst (.agg cs)) w) : wpListIn Fence.wide n P ops Q (o :: rest) a w :=
  wpListIn_plain hgd fun K hK => ⟨fun _ _ => trivial, by
    show o.uponIn Fence.wide n P a K Q ((execOp a.eval o).run P w)
    unfold execOp
    simp only [ho, hx, Instr.loadAt, Instr.sureAddr, Sem.run_bind, Sem.run_pure, Result.andThen_ok, run_loadVar_row w g t ty cs fr d hg hu hd hi]
    exact hK _ _ h⟩
theorem wpListIn_store_rowW (hgd : o.guard = none) (ty : TypeId) (x y : Operand) (ho : o.op = .store ty x y)
    (g : Nat) (cells : Array Value) (hx : a.eval x = .pointer (some ⟨g, 0, none⟩)) (hy : a.eval y = .agg cells)
    (t : TypeId) (old : Array Value) (hg : w.heap[g]? = some (.cells old t (0, 0))) (hi : (P.info? ty).map (·.size) = some cells.size)
    (hold : old.size = cells.size) (h1 : cells.all (·.oneCell') = true)
    (h : wpListIn Fence.wide n P ops Q rest (a.put o.dst undef) (w.setRow g cells)) : wpListIn Fence.wide n P ops Q (o :: rest) a w :=
  wpListIn_plain hgd fun K hK => ⟨fun _ _ => trivial, by
    show o.uponIn Fence.wide n P a K Q ((execOp a.eval o).run P w)
    unfold execOp
    simp only [ho, hx, hy, Instr.storeAt, Instr.sureAddr, Sem.run_bind, Sem.run_pure, Result.andThen_ok, run_storeVar_row w g t ty old cells hg hi hold h1]
    exact hK _ _ h⟩
end

theorem ownFrom_blk {β : Type} (B g : Nat) (T : TypeId) (f : β → Array Value) : OwnFrom B (fun s W => Blk W g T (f s)) := fun s W W' row h hg hr => (hg.block g h.lt (fun e => by
  obtain ⟨_, o, ho, hc⟩ := hr g e.symm
  unfold Blk at h
  rw [h] at ho
  cases ho
  cases hc)).trans h

set_option maxHeartbeats 4000000 in
theorem setOf_any (m gf n0 N : Nat) (lb : Array Value) (L : List (Fin m)) (Sp : List (Fin m) → Prop) (w : World) (hm' : m ≤ 16) (eg : ∀ args w, (callFunc gf args).run Try.prog w = .ok (.enter gf args) w)
    (hseq : SeqStopsK Fence.wide 2 Try.prog gf lb (encF m) (Below n0) (fun ys => ys = L) Sp N w) (hn0 : n0 ≤ w.heap.size) :
    Calls Try.prog 79 #[.func (.func gf) #[] lb] w fun e w' => e = .returned (.agg (setA (finN L))) ∧ Below w.heap.size w w' := by
  refine (callsIn_wide (n := 3)).1 ?_
  refine callsIn_of_wp_marks Try.func79 rfl trivial ?_ rfl
  simp only [Try.ntmps79, List.size_toArray, List.length_cons, List.length_nil, Nat.reduceAdd, Nat.reduceSub, Array.replicate_succ, Array.replicate_zero, List.push_toArray, List.append_toArray, List.nil_append, List.cons_append]
  gi_wp2
  obtain ⟨W, hW⟩ : ∃ W, (w.alloc (.cells (setA []) 69)).alloc (.cells (setA []) 69) = W := ⟨_, rfl⟩
  have k0 : Blk W w.heap.size 69 (setA []) := by
    subst hW; exact (Blk.new w _ _).alloc _
  have k1 : Blk W (w.heap.size + 1) 69 (setA []) := by
    subst hW
    have := Blk.new (w.alloc (.cells (setA []) 69)) 69 (setA [])
    rw [World.size_alloc] at this
    exact this
  have b0 : Below w.heap.size w W := by
    subst hW; exact ((Below.refl _ _).alloc (Nat.le_refl _) _).alloc (by simp) _
  have hsW : W.heap.size = w.heap.size + 2 := by subst hW; simp
  rw [← setA_nil, hW]
  clear hW
  refine wpIn_rangeFunc_ownG rfl (by omega) (gf := gf) (lb := lb) rfl trivial eg hseq belowK_t (belowK_b (by omega)) b0 (fun _ => rfl)
    (fun pre V => (Blk V (w.heap.size + 1) 69 (setA (finN pre)) ∧ Blk V w.heap.size 69 (setA [])) ∧ Below w.heap.size w V)
    (fun _ _ _ => False)
    (OwnFrom.and (OwnFrom.and (ownFrom_blk _ _ _ _) (ownFrom_blk _ _ _ (fun _ => setA []))) (ownFrom_below (Nat.le_refl _) (by omega)))
    (fun _ _ _ _ _ hs _ _ => hs)
    ⟨⟨k1, k0⟩, b0⟩
    (fun x => { tmps := #[.func (.func gf) #[] lb, undef, .pointer (some ⟨w.heap.size, 0, none⟩), .pointer (some ⟨w.heap.size + 1, 0, none⟩), .int .i64 (x.1 : Int), .func (.func gf) #[] lb, .int .i64 (x.1 : Int), undef, undef, undef], defers := [] }) ?assign ?body ?done ?stop
  case assign =>
    intro l x V K hK
    gi_wp2
    exact hK
  case body =>
    rintro l pre x V ⟨⟨h1, h2⟩, hB⟩ hlt
    have hx : x.1 < 16 := Nat.lt_of_lt_of_le x.2 hm'
    have hx0 : (0 : Int) ≤ (x.1 : Int) := by omega
    have hx1 : (x.1 : Int) < 16 := by omega
    have hc := (h1.cell x.1).trans (setA_get hx)
    have hf := h1.frozen x.1
    have H1 := Lib.hid h1
    have H2 := Lib.hid h2
    clear h1 h2
    gi_wp2
    refine ⟨(KeepsOthers.setCell _ _ _).from _, (Below.refl n0 V).setCell (p := ⟨w.heap.size + 1, x.1, none⟩) (Nat.le_trans hn0 (Nat.le_succ _)) _, ⟨?_, H2.out.far (by simp) _⟩, hB.setCell (p := ⟨w.heap.size + 1, x.1, none⟩) (Nat.le_succ _) _⟩
    have := H1.out.set_ x.1 (.bool true)
    rw [setA_set] at this
    simpa [finN] using this
  case done =>
    rintro D ys V hD rfl ⟨⟨h1, h2⟩, hB⟩ hK
    obtain ⟨S, hS⟩ : ∃ S, setA (finN ys) = S := ⟨_, rfl⟩
    have hs1 : S.size = 16 := by rw [← hS, setA_size]
    have hs2 : S.all (·.oneCell') = true := by rw [← hS]; exact setA_one
    rw [hS] at h1
    have HS := Lib.hid hS
    clear hS
    have hi : (Try.prog.info? 69).map (·.size) = some S.size := by rw [hs1]; kernel_rfl
    have hold : (setA []).size = S.size := by rw [hs1, setA_size]
    gi_wp2_with (first
      | (refine wpListIn_load_rowW rfl 69 (.tmp 3) rfl (w.heap.size + 1) rfl _ S (0, 0) _ h1 Try.underlying69 rfl hi ?_)
      | (refine wpListIn_store_rowW rfl 69 (.tmp 2) (.tmp 9) rfl w.heap.size S rfl rfl _ (setA []) h2 hi hold hs2 ?_))
    have hD2 : D ≠ w.heap.size := by omega
    have hK2 : (V.setRow w.heap.size S).heap[D]? = some (.deferred (some [])) := (setRow_other V w.heap.size D S hD2).trans hK
    have hB2 : Below w.heap.size w (V.setRow w.heap.size S) := below_setRow hB (Nat.le_refl _) S
    have hR : ((V.setRow w.heap.size S).putObj D (.deferred none)).heap[w.heap.size]? = some (.cells S 69 (0, 0)) := (World.putObj_heap_other (Ne.symm hD2)).trans (setRow_heap V w.heap.size _ S _ _ h2)
    refine ⟨by simp, .inl ⟨_, _, rfl, run_takeDeferred hK2, ?_⟩⟩
    exact ⟨_, results_cell_row Try.results79 _ _ w.heap.size 69 S (0, 0) _ rfl hR Try.underlying69 rfl hi, by rw [HS.out], hB2.trans (belowK_b (w := w) (Nat.le_refl _) (V.setRow w.heap.size S) D _ _ (by omega) hK2 rfl rfl)⟩
  case stop =>
    rintro D c pre W _ _ h _
    exact h.elim

end Go.Proofs.Ytocoegekdamlbaa
