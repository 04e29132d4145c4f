
/- Rings that a call hands out: own memory. -/
import Derived.Test.YtocoegekdamlbaaC4
import Derived.Test.YtocoegekdamlbaaC2
import Derived.Test.YtocoegekdamlbaaG2
import Derived.Laws.ResultCell
namespace Go.Proofs.Ytocoegekdamlbaa
open Go.RowKit

/-- A ring whose memory is the call's own. -/
def RingOut (D : Nat) (w : World) (v : Value) (n o : Int) (X Y : List Int) : Prop :=
  ∃ (A : Option Addr) (la ca : Nat) (B : Option Addr) (lb cb : Nat), v = .agg #[.int .i64 n, .int .i64 o, .slice A la ca, .slice B lb cb] ∧ Own w D A la X ∧ Own w D B lb Y ∧ Apart A la B lb ∧ la ≤ 1048570 ∧ lb ≤ 1048570 ∧ la + lb ≤ 1048570 ∧ la ≤ ca ∧ lb ≤ cb
theorem RingOut.zero {D : Nat} {w : World} : RingOut D w (.agg #[.int .i64 0, .int .i64 0, .slice none 0 0, .slice none 0 0]) 0 0 [] [] :=
  ⟨none, 0, 0, none, 0, 0, rfl, Own.nil, Own.nil, fun p h => (by obtain ⟨_, _, _, e, _⟩ := h; cases e), by omega, by omega, by omega, by omega, by omega⟩
theorem RingOut.next {D : Nat} {w w' : World} {v : Value} {n o : Int} {X Y : List Int} (h : RingOut D w v n o X Y) (hb : Below w.heap.size w w') : RingOut D w' v n o X Y := by
  obtain ⟨A, la, ca, B, lb, cb, e, h1, h2, h3⟩ := h
  exact ⟨A, la, ca, B, lb, cb, e, h1.next hb, h2.next hb, h3⟩
theorem Own.lower {w : World} {D D' n : Nat} {A : Option Addr} {xs : List Int} (h : Own w D A n xs) (hD : D' ≤ D) : Own w D' A n xs :=
  ⟨h.1, fun hn => by
    obtain ⟨g, off, e, h1, h2⟩ := h.2 hn
    exact ⟨g, off, e, Nat.le_trans hD h1, h2⟩⟩
theorem RingOut.lower {D D' : Nat} {w : World} {v : Value} {n o : Int} {X Y : List Int} (h : RingOut D w v n o X Y) (hD : D' ≤ D) : RingOut D' w v n o X Y := by
  obtain ⟨A, la, ca, B, lb, cb, e, h1, h2, h3⟩ := h
  exact ⟨A, la, ca, B, lb, cb, e, h1.lower hD, h2.lower hD, h3⟩
theorem NewRing.out {D : Nat} {w : World} {v : Value} {n o : Int} {k : Nat} {X Y : List Int} (h : NewRing D w v n o k X Y) (hk : k ≤ 1000) (hX : X.length = k) (hY : Y.length = k) : RingOut D w v n o X Y := by
  obtain ⟨v2, v3, rfl, h2, h3, h4⟩ := h
  rcases h2.2 with ⟨rfl, hk0⟩ | ⟨g, cap, cur, rfl, _, _, hc, _⟩
  · subst hk0
    obtain rfl := List.eq_nil_of_length_eq_zero hX
    obtain rfl := List.eq_nil_of_length_eq_zero hY
    rcases h3.2 with ⟨rfl, _⟩ | ⟨g', cap', cur', rfl, _⟩
    · exact ⟨none, 0, 0, none, 0, 0, rfl, Own.nil, Own.nil, fun p h => (by obtain ⟨_, _, _, e, _⟩ := h; cases e), by omega, by omega, by omega, by omega, by omega⟩
    · exact ⟨none, 0, 0, some ⟨g', 0, none⟩, 0, cap', rfl, Own.nil, Own.nil, fun p h => (by obtain ⟨_, _, _, e, _⟩ := h; cases e), by omega, by omega, by omega, by omega, by omega⟩
  · rcases h3.2 with ⟨rfl, hk0⟩ | ⟨g', cap', cur', rfl, _, _, hc', _⟩
    · subst hk0
      obtain rfl := List.eq_nil_of_length_eq_zero hX
      obtain rfl := List.eq_nil_of_length_eq_zero hY
      exact ⟨some ⟨g, 0, none⟩, 0, cap, none, 0, 0, rfl, Own.nil, Own.nil, fun p _ h => (by obtain ⟨_, _, _, e, _⟩ := h; cases e), by omega, by omega, by omega, by omega, by omega⟩
    · refine ⟨some ⟨g, 0, none⟩, k, cap, some ⟨g', 0, none⟩, k, cap', rfl, own_of_row h2 hX, own_of_row h3 hY, ?_, by omega, by omega, by omega, hc, hc'⟩
      rintro p ⟨q, off, j, e, _, rfl⟩ ⟨q', off', j', e', _, ep⟩
      have e1 : g = q := by simpa using congrArg (fun x => x.map Addr.block) e
      have e2 : g' = q' := by simpa using congrArg (fun x => x.map Addr.block) e'
      have e3 : q = q' := by injection ep
      exact h4 g rfl (by rw [e1, e3, ← e2]; rfl)

theorem store4_ownS {w : World} {b D n : Nat} {A : Option Addr} {xs : List Int} {v0 v1 v2 v3 : Value} (h : Own w D A n xs) (hb : b < D) : Own (store4 w b v0 v1 v2 v3) D A n xs :=
  ⟨h.1, fun hn => by
    obtain ⟨g, off, e, h1, h2, h3⟩ := h.2 hn
    have hne : ∀ k i, (⟨b, i, none⟩ : Addr) ≠ ⟨g, k, none⟩ := fun k i e => by injection e; omega
    refine ⟨g, off, e, h1, by simpa [store4] using h2, fun k hk => ?_⟩
    unfold store4
    exact ⟨(World.cell?_setCell_other _ _ _ _ (hne _ _)).trans ((World.cell?_setCell_other _ _ _ _ (hne _ _)).trans ((World.cell?_setCell_other _ _ _ _ (hne _ _)).trans ((World.cell?_setCell_other _ _ _ _ (hne _ _)).trans (h3 k hk).1))),
      (World.frozen?_setCell _ _ _ _).trans ((World.frozen?_setCell _ _ _ _).trans ((World.frozen?_setCell _ _ _ _).trans ((World.frozen?_setCell _ _ _ _).trans (h3 k hk).2)))⟩⟩
theorem store4_out {w : World} {b D : Nat} {v v0 v1 v2 v3 : Value} {n o : Int} {X Y : List Int} (h : RingOut D w v n o X Y) (hb : b < D) : RingOut D (store4 w b v0 v1 v2 v3) v n o X Y := by
  obtain ⟨A, la, ca, B, lb, cb, e, h1, h2, h3⟩ := h
  exact ⟨A, la, ca, B, lb, cb, e, store4_ownS h1 hb, store4_ownS h2 hb, h3⟩
theorem results_cell_flag {P : Program} {fn : Func} {p u : Tmp} {ty : TypeId} (h : fn.results = #[.cell p ty, .tmp u]) (tmps : Array Value) (w : World) (g : Nat) (t : TypeId) (cs : Array Value) (d : TypeDesc) (b : Value)
    (hp : tmps.getD p undef = .pointer (some ⟨g, 0, none⟩)) (hb : tmps.getD u undef = b) (hg : Blk w g t cs)
    (hu : P.underlying ty = some d) (hd : (match d with | .struct _ | .array _ _ => true | _ => false) = true) (hi : (P.info? ty).map (·.size) = some cs.size) :
    (results fn tmps).run P w = .ok (.tuple #[.agg cs, b]) w := by
  rw [results_cell_tmp h, hp, hb]
  simp [asAddr, run_loadVar_row w g t ty cs (0, 0) d hg hu hd hi]

end Go.Proofs.Ytocoegekdamlbaa
