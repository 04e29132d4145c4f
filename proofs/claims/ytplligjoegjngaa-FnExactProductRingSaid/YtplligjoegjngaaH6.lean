/- What the walk of a law of two rings that hands back a ring leans on. -/
import Derived.Test.YtplligjoegjngaaH5
import Derived.Test.YtplligjoegjngaaM6
import Derived.Test.YtplligjoegjngaaQ0
namespace Go.Proofs.Ytplligjoegjngaa
open Go.RowKit
set_option maxRecDepth 100000

/-- Four cells of a box. -/
def C4 (w : World) (b : Nat) (v0 v1 v2 v3 : Value) : Prop := b < w.heap.size ∧ w.cell? ⟨b, 0, none⟩ = some v0 ∧ w.cell? ⟨b, 1, none⟩ = some v1 ∧ w.cell? ⟨b, 2, none⟩ = some v2 ∧ w.cell? ⟨b, 3, none⟩ = some v3
theorem C4.of {w : World} {b : Nat} {t : TypeId} {v0 v1 v2 v3 : Value} (h : Blk w b t #[v0, v1, v2, v3]) : C4 w b v0 v1 v2 v3 := ⟨h.lt, h.cell 0, h.cell 1, h.cell 2, h.cell 3⟩
theorem C4.next {w w' : World} {b : Nat} {v0 v1 v2 v3 : Value} (h : C4 w b v0 v1 v2 v3) (hb : Below w.heap.size w w') : C4 w' b v0 v1 v2 v3 :=
  ⟨Nat.lt_of_lt_of_le h.1 hb.size, (hb.cell h.1).trans h.2.1, (hb.cell h.1).trans h.2.2.1, (hb.cell h.1).trans h.2.2.2.1, (hb.cell h.1).trans h.2.2.2.2⟩
theorem C4.below {w w' : World} {b D : Nat} {v0 v1 v2 v3 : Value} (h : C4 w b v0 v1 v2 v3) (hb : Below D w w') (hD : b < D) : C4 w' b v0 v1 v2 v3 :=
  ⟨Nat.lt_of_lt_of_le h.1 hb.size, (hb.cell hD).trans h.2.1, (hb.cell hD).trans h.2.2.1, (hb.cell hD).trans h.2.2.2.1, (hb.cell hD).trans h.2.2.2.2⟩
theorem C4.keep {w w' : World} {b : Nat} {v0 v1 v2 v3 : Value} (h : C4 w b v0 v1 v2 v3) (hs : w.heap.size ≤ w'.heap.size) (hk : ∀ p : Addr, p.block = b → w'.cell? p = w.cell? p) : C4 w' b v0 v1 v2 v3 :=
  ⟨Nat.lt_of_lt_of_le h.1 hs, (hk _ rfl).trans h.2.1, (hk _ rfl).trans h.2.2.1, (hk _ rfl).trans h.2.2.2.1, (hk _ rfl).trans h.2.2.2.2⟩
theorem Own.keep {w w' : World} {D n : Nat} {A : Option Addr} {xs : List Int} (h : Own w D A n xs) (hs : w.heap.size ≤ w'.heap.size) (hk : ∀ p : Addr, D ≤ p.block → p.block < w.heap.size → w'.cell? p = w.cell? p ∧ w'.frozen? p = w.frozen? p) : Own w' D A n xs :=
  ⟨h.1, fun hn => by
    obtain ⟨g, off, e, hD, hg, hc⟩ := h.2 hn
    exact ⟨g, off, e, hD, Nat.lt_of_lt_of_le hg hs, fun k hkk => ⟨(hk ⟨g, off + k, none⟩ hD hg).1.trans (hc k hkk).1, (hk ⟨g, off + k, none⟩ hD hg).2.trans (hc k hkk).2⟩⟩⟩
/-- A slice of the call's own holds no place that was not there. -/
theorem own_old {w : World} {D n : Nat} {A : Option Addr} {xs : List Int} (h : Own w D A n xs) {p : Addr} (hp : w.heap.size ≤ p.block) : ¬ InS A n p := by
  rintro ⟨g, off, j, e, hj, rfl⟩
  obtain ⟨g', off', e', _, hg, _⟩ := h.2 (by omega)
  rw [e] at e'
  simp only [Option.some.injEq, Addr.mk.injEq, and_true] at e'
  have : w.heap.size ≤ g := hp
  omega
theorem own_young {w : World} {D n : Nat} {A : Option Addr} {xs : List Int} (h : Own w D A n xs) {p : Addr} (hp : p.block < D) : ¬ InS A n p := by
  rintro ⟨g, off, j, e, hj, rfl⟩
  obtain ⟨g', off', e', hD, _, _⟩ := h.2 (by omega)
  rw [e] at e'
  simp only [Option.some.injEq, Addr.mk.injEq, and_true] at e'
  have : g < D := hp
  omega
theorem store4_ownN {w : World} {b D n : Nat} {A : Option Addr} {xs : List Int} {v0 v1 v2 v3 : Value} (h : Own w D A n xs) (hb : ∀ a, A = some a → a.block ≠ b) : Own (store4 w b v0 v1 v2 v3) D A n xs :=
  ⟨h.1, fun hn => by
    obtain ⟨g, off, e, h1, h2, h3⟩ := h.2 hn
    have hg : g ≠ b := hb _ e
    have hne : ∀ k i, (⟨b, i, none⟩ : Addr) ≠ ⟨g, k, none⟩ := fun k i e => hg (by injection e with e; exact e.symm)
    refine ⟨g, off, e, h1, by simpa [store4] using h2, fun k hk => ?_⟩
    unfold store4
    exact ⟨(World.cell?_setCell_other _ _ _ _ (hne _ _)).trans ((World.cell?_setCell_other _ _ _ _ (hne _ _)).trans ((World.cell?_setCell_other _ _ _ _ (hne _ _)).trans ((World.cell?_setCell_other _ _ _ _ (hne _ _)).trans (h3 k hk).1))),
      (World.frozen?_setCell _ _ _ _).trans ((World.frozen?_setCell _ _ _ _).trans ((World.frozen?_setCell _ _ _ _).trans ((World.frozen?_setCell _ _ _ _).trans (h3 k hk).2)))⟩⟩

theorem apart_ne {x1 x2 n m : Nat} (h : x1 ≠ x2) : Apart (some ⟨x1, 0, none⟩) n (some ⟨x2, 0, none⟩) m := by
  rintro p ⟨g, off, j, e, _, rfl⟩ ⟨g', off', j', e', _, ep⟩
  have e1 : x1 = g := by simpa using congrArg (fun x => x.map Addr.block) e
  have e2 : x2 = g' := by simpa using congrArg (fun x => x.map Addr.block) e'
  have e3 : g = g' := by injection ep
  exact h (e1.trans (e3.trans e2.symm))

set_option maxHeartbeats 2000000 in
theorem markRingB_any (n o : Int) (A B : Option Addr) (la ca lb cb : Nat) (X Y : List Int) (b : Int) (w : World) (D : Nat) (hX : Own w D A la X) (hY : Own w D B lb Y) (ha : Apart A la B lb) (hD : D ≤ w.heap.size) (hla : la ≤ 1048576) (hlb : lb ≤ 1048576) (h0 : 0 ≤ b) (h1 : b ≤ 2097152) :
    Calls Try.prog 22 #[.agg #[.int .i64 n, .int .i64 o, .slice A la ca, .slice B lb cb], .int .i64 b] w fun e w' => e = .returned (.int .i64 (b + la + lb)) ∧ Own w' D A la (markL X la b la) ∧ Own w' D B lb (markL Y lb (b + la) lb) ∧
      (∀ p : Addr, p.block < w.heap.size → ¬ InS A la p → ¬ InS B lb p → w'.cell? p = w.cell? p ∧ w'.frozen? p = w.frozen? p) ∧ Below D w w' := by
  have b0 : Below w.heap.size w (w.alloc (.cells #[.int .i64 n, .int .i64 o, .slice A la ca, .slice B lb cb] 24)) := (Below.refl _ _).alloc (Nat.le_refl _) _
  have OX := Lib.hid (hX.next b0)
  have OY := Lib.hid (hY.next b0)
  have AP := Lib.hid ha
  have AQ := Lib.hid (show Apart B lb A la from fun p h1 h2 => ha p h2 h1)
  have hbx := Lib.hid (Blk.new w 24 #[.int .i64 n, .int .i64 o, .slice A la ca, .slice B lb cb])
  have nx := Lib.hid (show ∀ k, ¬ InS A la ⟨w.heap.size, k, none⟩ from own_not_new hX)
  have ny := Lib.hid (show ∀ k, ¬ InS B lb ⟨w.heap.size, k, none⟩ from own_not_new hY)
  have B0 := Lib.hid b0
  clear hX hY ha b0
  go_enter Try.func22, Try.ntmps22
  go_wp2_with (fail)
  obtain ⟨W, hW⟩ : ∃ W, w.alloc (.cells #[.int .i64 n, .int .i64 o, .slice A la ca, .slice B lb cb] 24) = W := ⟨_, rfl⟩
  rw [hW] at OX OY hbx B0 ⊢
  have hsz : W.heap.size = w.heap.size + 1 := by subst hW; simp
  have HS := Lib.hid hsz
  clear hW hsz
  refine (markIntS_any A la ca X b W D OX.out hla h0 (by omega)).mono ?_
  rintro e1 w1 ⟨rfl, o1, bi1, bl1⟩
  have c3 := (bi1.2 ⟨w.heap.size, 3, none⟩ (nx.out 3)).1.trans (hbx.out.cell 3)
  have OX1 := Lib.hid o1
  have OY1 := Lib.hid (OY.out.kept bi1 AQ.out)
  have BI1 := Lib.hid bi1
  have BL1 := Lib.hid bl1
  simp at c3
  clear o1 bi1 bl1
  go_wp2_with (fail)
  refine (markIntS_any B lb cb Y (b + la) w1 D OY1.out hlb (by omega) (by omega)).mono ?_
  rintro e2 w2 ⟨rfl, o2, bi2, bl2⟩
  have OX2 := Lib.hid (OX1.out.kept bi2 AP.out)
  have OY2 := Lib.hid o2
  have BI2 := Lib.hid bi2
  have BL2 := Lib.hid bl2
  clear o2 bi2 bl2
  go_wp2
  go_ret
  refine ⟨rfl, OX2.out, OY2.out, fun p hp h3 h4 => ?_, ((B0.out.mono hD).trans BL1.out).trans BL2.out⟩
  have e1 := BI1.out.2 p h3
  have e2 := BI2.out.2 p h4
  exact ⟨e2.1.trans (e1.1.trans (B0.out.cell hp)), e2.2.trans (e1.2.trans (B0.out.frozen hp))⟩

/-! Two rings are copied, a function is called with them, a box is made for what it hands back. -/
def copyPhi (n o : Int) (la lb : Nat) (X Y : List Int) (v : Value) (w : World) : Prop := ∃ g1 g2, v = .agg #[.int .i64 n, .int .i64 o, .slice (some ⟨g1, 0, none⟩) la la, .slice (some ⟨g2, 0, none⟩) lb lb] ∧ Ints w w.heap.size (some ⟨g1, 0, none⟩) la X ∧ Ints w w.heap.size (some ⟨g2, 0, none⟩) lb Y
def outPhi (D : Nat) (n o : Int) (X Y : List Int) (ok : Bool) (v : Value) (w : World) : Prop := ∃ v0, v = .tuple #[v0, .bool ok] ∧ RingOutB D w v0 n o X Y
def boxPhiQ (D : Nat) (v : Value) (w : World) : Prop := ∃ g, v = .pointer (some ⟨g, 0, none⟩) ∧ D ≤ g ∧ Blk w g 24 #[.int .i64 0, .int .i64 0, .slice none 0 0, .slice none 0 0]
structure CallPhi (n o n' o' : Int) (la lb la' lb' : Nat) (X Y X' Y' : List Int) (D : Nat) (N O : Int) (Z T : List Int) (ok : Bool) (i : Nat) (v : Value) (w : World) : Prop where
  p1 : i = 1 → copyPhi n o la lb X Y v w
  p3 : i = 3 → copyPhi n' o' la' lb' X' Y' v w
  p4 : i = 4 → outPhi D N O Z T ok v w
  p8 : i = 8 → boxPhiQ D v w
theorem copyPhi_next {n o : Int} {la lb : Nat} {X Y : List Int} {v : Value} {w w' : World} (h : copyPhi n o la lb X Y v w) (hb : Below w.heap.size w w') : copyPhi n o la lb X Y v w' := by
  obtain ⟨g1, g2, e, h1, h2⟩ := h
  exact ⟨g1, g2, e, h1.next hb, h2.next hb⟩
theorem CallPhi_stable {n o n' o' : Int} {la lb la' lb' : Nat} {X Y X' Y' : List Int} {D : Nat} {N O : Int} {Z T : List Int} {ok : Bool} (i : Nat) (v : Value) (w w' : World) (h : CallPhi n o n' o' la lb la' lb' X Y X' Y' D N O Z T ok i v w) (hb : Below w.heap.size w w') : CallPhi n o n' o' la lb la' lb' X Y X' Y' D N O Z T ok i v w' :=
  ⟨fun e => copyPhi_next (h.p1 e) hb, fun e => copyPhi_next (h.p3 e) hb, fun e => by obtain ⟨v0, h1, h2⟩ := h.p4 e; exact ⟨v0, h1, h2.next hb⟩, fun e => by obtain ⟨g, h1, h2, h3⟩ := h.p8 e; exact ⟨g, h1, h2, h3.below hb h3.lt⟩⟩
structure CallSh (n o n' o' : Int) (la lb la' lb' : Nat) (N O : Int) (ok : Bool) (i : Nat) (v : Value) : Prop where
  p1 : i = 1 → ∃ g1 g2, v = .agg #[.int .i64 n, .int .i64 o, .slice (some ⟨g1, 0, none⟩) la la, .slice (some ⟨g2, 0, none⟩) lb lb]
  p3 : i = 3 → ∃ g1 g2, v = .agg #[.int .i64 n', .int .i64 o', .slice (some ⟨g1, 0, none⟩) la' la', .slice (some ⟨g2, 0, none⟩) lb' lb']
  p4 : i = 4 → ∃ A l k B l' k', v = .tuple #[.agg #[.int .i64 N, .int .i64 O, .slice A l k, .slice B l' k'], .bool ok]
  p8 : i = 8 → ∃ g, v = .pointer (some ⟨g, 0, none⟩)
theorem CallSh_of {n o n' o' : Int} {la lb la' lb' : Nat} {X Y X' Y' : List Int} {D : Nat} {N O : Int} {Z T : List Int} {ok : Bool} (i : Nat) (v : Value) (w : World) (h : CallPhi n o n' o' la lb la' lb' X Y X' Y' D N O Z T ok i v w) : CallSh n o n' o' la lb la' lb' N O ok i v :=
  ⟨fun e => by obtain ⟨g1, g2, h, _⟩ := h.p1 e; exact ⟨g1, g2, h⟩, fun e => by obtain ⟨g1, g2, h, _⟩ := h.p3 e; exact ⟨g1, g2, h⟩,
    fun e => by obtain ⟨v0, h1, ⟨A, l, k, B, l', k', h2, _⟩⟩ := h.p4 e; exact ⟨A, l, k, B, l', k', by rw [h1, h2]⟩, fun e => by obtain ⟨g, h, _⟩ := h.p8 e; exact ⟨g, h⟩⟩
def callMk (i : Nat) : Bool := i == 1 || i == 3 || i == 4 || i == 8
def call0 (n o n' o' : Int) (la lb la' lb' : Nat) (N O : Int) (ok : Bool) (i : Nat) : Value :=
  if i = 1 then .agg #[.int .i64 n, .int .i64 o, .slice (some ⟨0, 0, none⟩) la la, .slice (some ⟨0, 0, none⟩) lb lb]
  else if i = 3 then .agg #[.int .i64 n', .int .i64 o', .slice (some ⟨0, 0, none⟩) la' la', .slice (some ⟨0, 0, none⟩) lb' lb']
  else if i = 4 then .tuple #[.agg #[.int .i64 N, .int .i64 O, .slice none 0 0, .slice none 0 0], .bool ok] else .pointer (some ⟨0, 0, none⟩)
theorem CallSh_zero {n o n' o' : Int} {la lb la' lb' : Nat} {N O : Int} {ok : Bool} (i : Nat) : CallSh n o n' o' la lb la' lb' N O ok i (call0 n o n' o' la lb la' lb' N O ok i) :=
  ⟨fun e => ⟨0, 0, by subst e; rfl⟩, fun e => ⟨0, 0, by subst e; rfl⟩, fun e => ⟨none, 0, 0, none, 0, 0, by subst e; rfl⟩, fun e => ⟨0, by subst e; rfl⟩⟩

end Go.Proofs.Ytplligjoegjngaa
