/- Texts of this seat in one: D0 CO. -/
import Derived.Test.YtahdkdpliphcnaaMB
import Derived.ProofKit
import Derived.Lib.SmallJoins
import Derived.Test.YtahdkdpliphcnaaNI
import Derived.Test.YtahdkdpliphcnaaMV
import Derived.Test.YtahdkdpliphcnaaNH
import Derived.Test.YtahdkdpliphcnaaNG
import Derived.Deep.Matrix

/- What every law's row is made of: one ring that came in. -/
namespace Go.Proofs.Ytahdkdpliphcnaa
open Go.ChangeShapes Go.WideShapes Go.ChangeAt Go.RowKit Go.Joins
set_option maxRecDepth 100000

theorem Try.own : ownKnob Try.prog.godebug = none := by kernel_rfl
theorem Try.laidOut : laidOutB Try.prog = true := by kernel_rfl
theorem Try.cellsInt : Try.prog.cellsOf 3 = 1 := by kernel_rfl

section
variable {H : Type} {enc : TypeId × Value → H} {w : World}
theorem ints_of_trod {t fuel : Nat} {v : Value} {x : DataW H × List MemPlace} (ht : Try.prog.underlying t = some (.slice 3)) (h : DataW.trod enc Try.prog w 0 (fun _ => true) true fuel t [v] = some x) (hlt : ∀ y ∈ x.2, y.block < w.heap.size) :
    ∃ A len cap xs, v = .slice A len cap ∧ Ints w w.heap.size A len xs ∧ len ≤ 9223372036854775807 ∧ len ≤ cap := by
  rcases open_ints ht Try.underlying3 Try.cellsInt h with ⟨hcs, _⟩ | ⟨a, len, cap, zs, hcs, _, hl, hm, hz, hx, hcell, _⟩
  · simp at hcs
    exact ⟨none, 0, 0, [], hcs, ⟨rfl, fun h => absurd h (by omega)⟩, by omega, Nat.le_refl _⟩
  · simp at hcs
    simp only [if_true] at hz
    unfold maxLen at hm
    refine ⟨some a, len, cap, zs.take len, hcs, ⟨by simp; omega, fun h0 => ?_⟩, by omega, hl⟩
    obtain ⟨b, off, spot⟩ := a
    have hspot : spot = none := by simpa [Addr.add] using World.cell?_spot (hcell 0 (by omega))
    subst hspot
    have hp : MemPlace.cell b off ∈ x.2 := by
      rw [hx]
      exact MemPlace.mem_row.2 ⟨0, by omega, by simp⟩
    refine ⟨b, off, rfl, hlt _ hp, fun k y hy => ?_⟩
    have hk : k < len := by
      rcases Nat.lt_or_ge k len with h1 | h1
      · exact h1
      · rw [List.getElem?_eq_none (by simp; omega)] at hy; cases hy
    rw [List.getElem?_take, if_pos hk] at hy
    have := hcell k (by omega)
    rw [add_plain] at this
    rw [this, List.getD_eq_getElem?_getD, hy]; rfl

theorem wf_bounds {n : Int} (h : (Lit.int .i64 n).wf = true) : -9223372036854775808 ≤ n ∧ n ≤ 9223372036854775807 := by
  have h1 : IntKind.i64.min = -9223372036854775808 := rfl
  have h2 : IntKind.i64.max = 9223372036854775807 := rfl
  simp only [Lit.wf, Bool.and_eq_true, decide_eq_true_eq] at h
  omega
theorem ring_of_trod {base : Nat} {v : Value} {d : DataW H} {p : List MemPlace} (hv : Value.okWide Try.prog w .any base 24 v) (h : DataW.Trod enc Try.prog w 0 (fun _ => true) true 24 v d p) (hlt : ∀ y ∈ p, y.block < w.heap.size) :
    ∃ (n o : Int) (A B : Option Addr) (la ca lb cb : Nat) (X Y : List Int), v = .agg #[.int .i64 n, .int .i64 o, .slice A la ca, .slice B lb cb] ∧ Ints w w.heap.size A la X ∧ Ints w w.heap.size B lb Y ∧ la ≤ 9223372036854775807 ∧ lb ≤ 9223372036854775807 ∧ -9223372036854775808 ≤ n ∧ n ≤ 9223372036854775807 := by
  obtain ⟨v0, v1, v2, v3, y0, y1, y2, y3, n, rfl, rfl, rfl, h0, h1, h2, h3⟩ := open_agg4 Try.underlying24 (by kernel_rfl) (by kernel_rfl) hv h
  obtain ⟨i0, e0, _, w0⟩ := DataW.trod_int Try.underlying3 h0
  obtain ⟨i1, e1, _, _⟩ := DataW.trod_int Try.underlying3 h1
  simp only [List.mem_append] at hlt
  obtain ⟨A, la, ca, X, e2, hX, hla, _⟩ := ints_of_trod Try.underlying22 h2 (fun y hy => hlt y (.inr (.inr (.inl hy))))
  obtain ⟨B, lb, cb, Y, e3, hY, hlb, _⟩ := ints_of_trod Try.underlying22 h3 (fun y hy => hlt y (.inr (.inr (.inr hy))))
  simp only [List.cons.injEq, and_true] at e0 e1
  subst e0; subst e1; subst e2; subst e3
  exact ⟨_, _, _, _, _, _, _, _, X, Y, rfl, hX, hY, hla, hlb, wf_bounds w0⟩
end

end Go.Proofs.Ytahdkdpliphcnaa



/- Laws over slices of slices that come in: their sizes, their copies, equality, marks. -/
namespace Go.Proofs.Ytahdkdpliphcnaa
open Go.RowKit Go.Shelf
set_option maxRecDepth 100000

/-- Nothing has turned but the places of these slices. -/
def ButAll (w w' : World) (n : Nat) (Bs : Nat → Option Addr) (ls : Nat → Nat) : Prop := w'.heap.size = w.heap.size ∧ ∀ p, (∀ i, i < n → ¬ InS (Bs i) (ls i) p) → w'.cell? p = w.cell? p ∧ w'.frozen? p = w.frozen? p
theorem ButAll.refl {w : World} {n : Nat} {Bs : Nat → Option Addr} {ls : Nat → Nat} : ButAll w w n Bs ls := ⟨rfl, fun _ _ => ⟨rfl, rfl⟩⟩
theorem ButAll.more {w w' w'' : World} {n y : Nat} {Bs : Nat → Option Addr} {ls : Nat → Nat} (h : ButAll w w' n Bs ls) (hy : y < n) (hb : ButIn w' w'' (Bs y) (ls y)) : ButAll w w'' n Bs ls :=
  ⟨hb.1.trans h.1, fun p hp => ⟨(hb.2 p (hp y hy)).1.trans (h.2 p hp).1, (hb.2 p (hp y hy)).2.trans (h.2 p hp).2⟩⟩
/-- A slice of slices of the call's own, by its lists' places. -/
def LLn (D n : Nat) (w : World) (A : Option Addr) (Bs : Nat → Option Addr) (cs ls : Nat → Nat) (F : Nat → List Int) : Prop :=
  ∀ i, i < n → ∃ g, A = some ⟨g, 0, none⟩ ∧ D ≤ g ∧ g < w.heap.size ∧ w.cell? ⟨g, i, none⟩ = some (.slice (Bs i) (ls i) (cs i)) ∧ ls i ≤ cs i ∧ ls i ≤ 1048576 ∧ Own w D (Bs i) (ls i) (F i) ∧ ∀ p : Addr, p.block = g → ¬ InS (Bs i) (ls i) p
theorem LLn.next {D n : Nat} {w w' : World} {A : Option Addr} {Bs : Nat → Option Addr} {cs ls : Nat → Nat} {F : Nat → List Int} (h : LLn D n w A Bs cs ls F) (hb : Below w.heap.size w w') : LLn D n w' A Bs cs ls F := fun i hi => by
  obtain ⟨g, e, h0, h1, h2, h3, h4, h5, h6⟩ := h i hi
  exact ⟨g, e, h0, Nat.lt_of_lt_of_le h1 hb.size, (hb.cell (p := ⟨g, i, none⟩) h1).trans h2, h3, h4, h5.next hb, h6⟩
theorem LLn.keep {D n : Nat} {w w' : World} {A : Option Addr} {Bs : Nat → Option Addr} {cs ls : Nat → Nat} {F : Nat → List Int} (h : LLn D n w A Bs cs ls F) (hs : w.heap.size ≤ w'.heap.size) (hk : ∀ p : Addr, D ≤ p.block → p.block < w.heap.size → w'.cell? p = w.cell? p ∧ w'.frozen? p = w.frozen? p) : LLn D n w' A Bs cs ls F := fun i hi => by
  obtain ⟨g, e, h0, h1, h2, h3, h4, h5, h6⟩ := h i hi
  exact ⟨g, e, h0, Nat.lt_of_lt_of_le h1 hs, (hk ⟨g, i, none⟩ h0 h1).1.trans h2, h3, h4, h5.keep hs hk, h6⟩

theorem LLn.mark {D n y : Nat} {w w' : World} {A : Option Addr} {Bs : Nat → Option Addr} {cs ls : Nat → Nat} {F : Nat → List Int} {b : Int} (h : LLn D n w A Bs cs ls (mkF ls F b y)) (hap : ∀ i j, i < n → j < n → i ≠ j → Apart (Bs i) (ls i) (Bs j) (ls j)) (hy : y < n)
    (hO : Own w' D (Bs y) (ls y) (markL (mkF ls F b y y) (ls y) (b + (offN ls y : Nat)) (ls y))) (hb : ButIn w w' (Bs y) (ls y)) : LLn D n w' A Bs cs ls (mkF ls F b (y + 1)) := fun i hi => by
  obtain ⟨g, e, h0, h1, h2, h3, h4, h5, h6⟩ := h i hi
  obtain ⟨g', e', _, _, _, _, _, _, h6'⟩ := h y hy
  rw [e] at e'
  simp only [Option.some.injEq, Addr.mk.injEq, and_true] at e'
  subst e'
  refine ⟨g, e, h0, by rw [hb.1]; exact h1, (hb.2 ⟨g, i, none⟩ (h6' _ rfl)).1.trans h2, h3, h4, ?_, h6⟩
  by_cases hiy : i = y
  · subst hiy
    have e1 : mkF ls F b i i = F i := if_neg (Nat.lt_irrefl i)
    have e2 : mkF ls F b (i + 1) i = markL (F i) (ls i) (b + (offN ls i : Nat)) (ls i) := if_pos (Nat.lt_succ_self i)
    rw [e1] at hO
    rw [e2]
    exact hO
  · have e3 : mkF ls F b (y + 1) i = mkF ls F b y i := by
      unfold mkF
      by_cases hl : i < y
      · rw [if_pos hl, if_pos (by omega)]
      · rw [if_neg hl, if_neg (by omega)]
    rw [e3]
    exact h5.kept hb (hap i y hi hy hiy)

set_option maxHeartbeats 4000000 in
theorem markIntSS2_any (A : Option Addr) (n cap D : Nat) (Bs : Nat → Option Addr) (cs ls : Nat → Nat) (F : Nat → List Int) (b : Int) (w : World) (h : LLn D n w A Bs cs ls F) (hap : ∀ i j, i < n → j < n → i ≠ j → Apart (Bs i) (ls i) (Bs j) (ls j)) (hz : n ≤ 1048576) (ht : offN ls n ≤ 1048576) (h0 : 0 ≤ b) (h1 : b ≤ 2097154) :
    Calls Try.prog 25 #[.slice A n cap, .int .i64 b] w fun e w' => e = .returned (.int .i64 (b + (offN ls n : Nat))) ∧ LLn D n w' A Bs cs ls (mkF ls F b n) ∧ Below D w w' ∧ ButAll w w' n Bs ls := by
  have HA := Lib.hid (show LLn D n w A Bs cs ls (mkF ls F b 0) from h)
  have HP := Lib.hid hap
  clear h hap
  go_enter Try.func25, Try.ntmps25
  go_wp2
  go_loopg [1, 5] n (fun g2 s vi wr => ∃ y : Nat, y ≤ n ∧ n ≤ y + g2 ∧ vi = .int .i64 y ∧ s = .int .i64 (b + (offN ls y : Nat)) ∧ LLn D n wr A Bs cs ls (mkF ls F b y) ∧ Below D w wr ∧ ButAll w wr n Bs ls)
  case atStart => exact ⟨0, Nat.zero_le _, by omega, rfl, by simp [offN], HA.out, Below.refl _ _, ButAll.refl⟩
  case round =>
    obtain ⟨y, hy, hg2, rfl, rfl, hl, hb, hba⟩ := hrel
    have BA := Lib.hid hba
    have LW := Lib.hid hl
    have BW := Lib.hid hb
    clear hl hb hba
    by_cases hlt : y < n
    · have AL := Lib.hid (fun w' => BA.out.more (w'' := w') hlt)
      obtain ⟨g, rfl, _, g1, hc, g3, g4, g5, _⟩ := LW.out y hlt
      have hoff := offN_le (ls := ls) hlt
      have H5 := Lib.hid g5
      have HMK := Lib.hid (show ∀ w', Own w' D (Bs y) (ls y) (markL (mkF ls F b y y) (ls y) (b + (offN ls y : Nat)) (ls y)) → ButIn wr w' (Bs y) (ls y) → LLn D n w' (some ⟨g, 0, none⟩) Bs cs ls (mkF ls F b (y + 1)) from fun w' a1 a2 => LW.out.mark HP.out hlt a1 a2)
      obtain ⟨FY, hFY⟩ : ∃ x, mkF ls F b y y = x := ⟨_, rfl⟩
      obtain ⟨Y, hY⟩ : ∃ x, Bs y = x := ⟨_, rfl⟩
      obtain ⟨ln, hln⟩ : ∃ x, ls y = x := ⟨_, rfl⟩
      obtain ⟨q, hq⟩ : ∃ x, cs y = x := ⟨_, rfl⟩
      have HON := Lib.hid (show offN ls (y + 1) = offN ls y + ln by rw [← hln]; rfl)
      obtain ⟨oy, hoy⟩ : ∃ x, offN ls y = x := ⟨_, rfl⟩
      rw [hY, hln] at AL
      rw [hY, hln, hFY] at H5
      rw [hY, hln, hq] at hc
      rw [hln] at g4 hoff
      rw [hY, hln, hFY, hoy] at HMK
      rw [hoy] at HON hoff ⊢
      have hb0 : 0 ≤ b + (oy : Int) := by omega
      have hb1 : b + (oy : Int) ≤ 4194304 := by omega
      clear g5 hY hln hq hoy hFY
      go_wp2_with (go_at_call 26; refine (markIntS_any Y ln q FY (b + (oy : Int)) wr D H5.out (by omega) hb0 hb1).mono ?_; rintro e w2 ⟨rfl, hO2, hB2, hb2⟩; have L2 := Lib.hid (HMK.out _ hO2 hB2); have A2 := Lib.hid (AL.out _ hB2); have B2 := Lib.hid (BW.out.trans hb2); clear hO2 hB2 hb2)
      go_roundg (n - (y + 1))
      case measure => omega
      case rel => exact ⟨y + 1, by omega, by omega, by go_num, by rw [HON.out]; congr 1; omega, L2.out, B2.out, A2.out⟩
    · have hym : y = n := by omega
      subst hym
      go_wp2
      go_ret
      exact ⟨rfl, LW.out, BW.out, BA.out⟩

theorem LLn.marked {D n g1 g2 k1 k2 : Nat} {w w' : World} {A : Option Addr} {Bs : Nat → Option Addr} {cs ls : Nat → Nat} {F : Nat → List Int} (h : LLn D n w A Bs cs ls F) (hs : w.heap.size ≤ w'.heap.size)
    (hk : ∀ p : Addr, p.block < w.heap.size → ¬ InS (some ⟨g1, 0, none⟩) k1 p → ¬ InS (some ⟨g2, 0, none⟩) k2 p → w'.cell? p = w.cell? p ∧ w'.frozen? p = w.frozen? p) (h1 : g1 < D) (h2 : g2 < D) : LLn D n w' A Bs cs ls F :=
  h.keep hs fun p hD hp => hk p hp (not_inS (by omega)) (not_inS (by omega))
theorem LLn.markedI {D n g k : Nat} {w w' : World} {A : Option Addr} {Bs : Nat → Option Addr} {cs ls : Nat → Nat} {F : Nat → List Int} (h : LLn D n w A Bs cs ls F) (hb : ButIn w w' (some ⟨g, 0, none⟩) k) (hg : g < D) : LLn D n w' A Bs cs ls F :=
  h.keep (by rw [hb.1]; exact Nat.le_refl _) fun p hD _ => hb.2 p (not_inS (by omega))


theorem LLn.rws {D : Nat} {w : World} {A : Option Addr} {Bs : Nat → Option Addr} {cs : Nat → Nat} {RR : List (List Int)} (cap : Nat) (h : LLn D RR.length w A Bs cs (lsZ RR) (fZ RR)) : Rws w w.heap.size (.slice A RR.length cap) RR :=
  ⟨A, cap, rfl, fun i Z hZ => by
    have hi : i < RR.length := (List.getElem?_eq_some_iff.1 hZ).1
    obtain ⟨g, e, _, h1, h2, h3, h4, h5, _⟩ := h i hi
    have e1 := fZ_some hZ
    have e2 : lsZ RR i = Z.length := by unfold lsZ; rw [e1]
    rw [e2] at h2 h3 h4 h5
    rw [e1] at h5
    exact ⟨g, 0, Bs i, cs i, e, h1, by rw [Nat.zero_add]; exact h2, h3, by omega, h5.ints⟩⟩

/-- What is left of a size. -/
def totZ (RR : List (List Int)) : Nat := RR.length + offN (lsZ RR) RR.length
noncomputable def szM (l : Int) (RR : List (List Int)) : Int := if (totZ RR : Int) ≤ l then l - (totZ RR : Int) else -1
theorem szM_yes {l : Int} {RR : List (List Int)} (h : (totZ RR : Int) ≤ l) : szM l RR = l - (totZ RR : Int) := if_pos h
theorem szM_no {l : Int} {RR : List (List Int)} (h : ¬ (totZ RR : Int) ≤ l) : szM l RR = -1 := if_neg h

set_option maxHeartbeats 4000000 in
theorem szIntSS_any (v : Value) (RR : List (List Int)) (l : Int) (D : Nat) (w : World) (hR : Rws w D v RR) (h0 : 0 ≤ l) (h1 : l ≤ 1048576) (hlr : RR.length ≤ 9223372036854775807) :
    Calls Try.prog 19 #[v, .int .i64 l] w fun e w' => e = .returned (.int .i64 (szM l RR)) ∧ w = w' := by
  obtain ⟨A, cap, rfl, hA⟩ := hR
  have HA := Lib.hid hA
  have HT := Lib.hid (show totZ RR = RR.length + offN (lsZ RR) RR.length from rfl)
  obtain ⟨nr, hnr⟩ : ∃ x, RR.length = x := ⟨_, rfl⟩
  have HNR := Lib.hid hnr
  rw [hnr] at hlr HT ⊢
  clear hA hnr
  by_cases hn : (nr : Int) ≤ l
  rotate_left
  · have hz := Lib.hid (szM_no (l := l) (RR := RR) (by have := HT.out; omega))
    have t1 : l - (nr : Int) < 0 := by omega
    have t2 : IntKind.i64.wrap (l - (nr : Int)) = l - (nr : Int) := IntWalk.i64_in _ (by constructor <;> omega)
    go_enter Try.func19, Try.ntmps19
    go_wp2
    go_ret
    exact ⟨ret_int hz.out.symm, rfl⟩
  have t1 : ¬ (l - (nr : Int) < 0) := by omega
  have t2 : IntKind.i64.wrap (l - (nr : Int)) = l - (nr : Int) := IntWalk.i64_in _ (by constructor <;> omega)
  go_enter Try.func19, Try.ntmps19
  go_wp2
  go_loopg [1, 5] nr (fun g2 s vi wr => w = wr ∧ ∃ y : Nat, y ≤ nr ∧ nr ≤ y + g2 ∧ vi = .int .i64 y ∧ s = .int .i64 (l - nr - (offN (lsZ RR) y : Nat)) ∧ (offN (lsZ RR) y : Int) ≤ l - nr)
  case atStart => exact ⟨rfl, 0, Nat.zero_le _, by omega, rfl, by simp [offN], by simp [offN]; omega⟩
  case round =>
    obtain ⟨rfl, y, hy, hg2, rfl, rfl, hle⟩ := hrel
    by_cases hlt : y < nr
    · obtain ⟨Z, hZ⟩ : ∃ Z, RR[y]? = some Z := ⟨_, List.getElem?_eq_getElem (by rw [HNR.out]; exact hlt)⟩
      obtain ⟨g, off, B, c, rfl, h2, hc, h4, h5, h6⟩ := HA.out y Z hZ
      have e1 : lsZ RR y = Z.length := by unfold lsZ; rw [fZ_some hZ]
      obtain ⟨ln, hln⟩ : ∃ x, Z.length = x := ⟨_, rfl⟩
      rw [hln] at hc h4 h5 e1
      have HON := Lib.hid (show offN (lsZ RR) (y + 1) = offN (lsZ RR) y + ln by rw [← e1]; rfl)
      have HOM := Lib.hid (show offN (lsZ RR) (y + 1) ≤ offN (lsZ RR) nr by have := offN_mono (ls := lsZ RR) (i := y + 1) (nr - (y + 1)); rwa [show y + 1 + (nr - (y + 1)) = nr by omega] at this)
      obtain ⟨oy, hoy⟩ : ∃ x, offN (lsZ RR) y = x := ⟨_, rfl⟩
      rw [hoy] at HON hle ⊢
      clear hZ hln e1 h6 hoy
      have hl0 : 0 ≤ l - nr - (oy : Int) := by omega
      have hl1 : l - nr - (oy : Int) ≤ 1048576 := by omega
      by_cases hfit : (ln : Int) ≤ l - nr - oy
      · have ez := Lib.hid (szI_yes hfit)
        have t3 : ¬ (l - nr - (oy : Int) - ln < 0) := by omega
        go_wp2_with (go_at_call 38; refine (szIntS_any B ln c (l - nr - (oy : Int)) _ hl0 hl1 h5).mono ?_; rintro e w2 ⟨rfl, rfl⟩; rw [ez.out])
        go_roundg (nr - (y + 1))
        case measure => omega
        case rel => exact ⟨rfl, y + 1, by omega, by omega, by go_num, by rw [HON.out]; congr 1; omega, by rw [HON.out]; omega⟩
      · have ez := Lib.hid (szI_no hfit)
        have hz := Lib.hid (szM_no (l := l) (RR := RR) (by have := HT.out; have := HON.out; have := HOM.out; omega))
        go_wp2_with (go_at_call 38; refine (szIntS_any B ln c (l - nr - (oy : Int)) _ hl0 hl1 h5).mono ?_; rintro e w2 ⟨rfl, rfl⟩; rw [ez.out])
        go_ret
        exact ⟨ret_int hz.out.symm, rfl⟩
    · have hym : y = nr := by omega
      subst hym
      have hz := Lib.hid (szM_yes (l := l) (RR := RR) (by have := HT.out; omega))
      go_wp2
      go_ret
      exact ⟨ret_int (by rw [hz.out, HT.out]; omega), rfl⟩

set_option maxHeartbeats 4000000 in
theorem eqIntSS2 (a b : Value) (RR : List (List Int)) (w : World) (ha : Rws w w.heap.size a RR) (hb : Rws w w.heap.size b RR) (hz : RR.length ≤ 1048576) :
    Calls Try.prog 23 #[a, b] w fun e w' => e = .returned (.bool true) ∧ Below w.heap.size w w' := by
  obtain ⟨A, cap, rfl, hA⟩ := ha
  obtain ⟨B, cap', rfl, hB⟩ := hb
  obtain ⟨nl, hnl⟩ : ∃ x, RR.length = x := ⟨_, rfl⟩
  rw [hnl] at hz ⊢
  have HNL := Lib.hid hnl
  have HA := Lib.hid hA
  have HB := Lib.hid hB
  clear hA hB hnl
  go_enter Try.func23, Try.ntmps23
  go_wp2
  go_loopg [5] nl (fun g2 vi wr => ∃ y : Nat, y ≤ nl ∧ nl ≤ y + g2 ∧ vi = .int .i64 y ∧ Below w.heap.size w wr)
  case atStart => exact ⟨0, Nat.zero_le _, by omega, rfl, Below.refl _ _⟩
  case round =>
    obtain ⟨y, hy, hg2, rfl, hb⟩ := hrel
    have BW := Lib.hid hb
    have hsz := hb.size
    clear hb
    by_cases hlt : y < nl
    · obtain ⟨Z, hZ⟩ : ∃ Z, RR[y]? = some Z := ⟨_, List.getElem?_eq_getElem (by rw [HNL.out]; exact hlt)⟩
      obtain ⟨g, off, B1, q1, rfl, h2, hc, h4, h5, h6⟩ := HA.out y Z hZ
      obtain ⟨g', off', B2, q2, rfl, h2', hc', h4', h5', h6'⟩ := HB.out y Z hZ
      have hck : wr.cell? ⟨g, off + y, none⟩ = some (.slice B1 Z.length q1) := (BW.out.cell (p := ⟨g, off + y, none⟩) h2).trans hc
      have hck' : wr.cell? ⟨g', off' + y, none⟩ = some (.slice B2 Z.length q2) := (BW.out.cell (p := ⟨g', off' + y, none⟩) h2').trans hc'
      have H6 := Lib.hid (h6.next BW.out)
      have H7 := Lib.hid (h6'.next BW.out)
      obtain ⟨ln, hln⟩ : ∃ x, Z.length = x := ⟨_, rfl⟩
      rw [hln] at hck hck' h4 h5 H6 H7
      have hy0 : (0 : Int) ≤ (y : Int) := by omega
      have hyn : (y : Int) < (nl : Int) := by omega
      clear hc hc' hZ h6 h6' hln h4' h5'
      go_wp2_with (fail)
      refine wp_region_ext (by kernel_rfl) (by kernel_rfl) ?_
      repeat (go_big_quiet_step ((first | (go_at_call 16; exact calls_ext (eqIntS_same B1 B2 ln q1 q2 Z _ _ _ (H6.out.next (ext_below _ _)) (H7.out.next (ext_below _ _)) (by omega))))))
      refine wpQuiet_nil ?_
      intro w2 hb2
      have B2' := Lib.hid (BW.out.trans (hb2.mono hsz))
      clear hb2
      go_wp2
      go_roundg (nl - (y + 1))
      case measure => omega
      case rel => exact ⟨y + 1, by omega, by omega, by go_num, B2'.out⟩
    · have hym : y = nl := by omega
      subst hym
      go_wp2
      go_ret
      exact ⟨rfl, BW.out⟩

/-- The copies' slices, the first so many of them. -/
def cpL (nr : Nat) (b ls : Nat → Nat) (y : Nat) : List Value := (List.range nr).map fun i => if i < y then .slice (some ⟨b i, 0, none⟩) (ls i) (ls i) else .slice none 0 0
theorem cpL_len {nr y : Nat} {b ls : Nat → Nat} : (cpL nr b ls y).length = nr := by simp [cpL]
theorem cpL_get {nr y i : Nat} {b ls : Nat → Nat} (h : i < nr) : (cpL nr b ls y)[i]? = some (if i < y then .slice (some ⟨b i, 0, none⟩) (ls i) (ls i) else .slice none 0 0) := by
  unfold cpL
  rw [List.getElem?_map, List.getElem?_range h]
  rfl
theorem cpL_zero {nr : Nat} {b ls : Nat → Nat} : (madeCells (Value.slice none 0 0).cells (nr * 1)).toList = cpL nr b ls 0 := by
  apply List.ext_getElem?
  intro j
  by_cases hj : j < nr
  · rw [cpL_get hj]
    simp [madeCells, Value.cells, hj, Nat.mod_one]
  · rw [List.getElem?_eq_none (by simp [madeCells]; omega), List.getElem?_eq_none (by rw [cpL_len]; omega)]
theorem cpL_set {nr y g : Nat} {b ls : Nat → Nat} (h : y < nr) : (cpL nr b ls y).set y (.slice (some ⟨g, 0, none⟩) (ls y) (ls y)) = cpL nr (putF b y g) ls (y + 1) := by
  apply List.ext_getElem?
  intro j
  by_cases hj : j < nr
  · rw [cpL_get hj]
    by_cases hjy : j = y
    · subst hjy
      rw [List.getElem?_set_self (by rw [cpL_len]; exact h), if_pos (by omega)]
      unfold putF
      rw [if_pos rfl]
    · rw [List.getElem?_set_ne (by omega), cpL_get hj]
      unfold putF
      rw [if_neg hjy]
      by_cases h1 : j < y
      · rw [if_pos h1, if_pos (by omega)]
      · rw [if_neg h1, if_neg (by omega)]
  · rw [List.getElem?_eq_none (by rw [List.length_set, cpL_len]; omega), List.getElem?_eq_none (by rw [cpL_len]; omega)]
theorem Own.set_far {D n b : Nat} {xs : List Int} {w : World} {p : Addr} {u : Value} (h : Own w D (some ⟨b, 0, none⟩) n xs) (hp : b ≠ p.block) : Own (w.setCell p u) D (some ⟨b, 0, none⟩) n xs :=
  ⟨h.1, fun hn => by
    obtain ⟨g, off, e, hD, hlt, hc⟩ := h.2 hn
    have eg : g = b := by simp only [Option.some.injEq, Addr.mk.injEq, and_true] at e; exact e.1.symm
    have he : (w.setCell p u).heap[g]? = w.heap[g]? := Below.heap_setCell w p u g (by rw [eg]; exact hp)
    refine ⟨g, off, e, hD, Nat.lt_of_lt_of_le hlt ((Below.refl 0 w).setCell (p := p) (Nat.zero_le _) u).size, fun k hk => ?_⟩
    rw [World.cell?_of_block (a := ⟨g, off + k, none⟩) he, World.frozen?_of_block (a := ⟨g, off + k, none⟩) he]
    exact hc k hk⟩

/-- The copy of a slice of slices. -/
def CpyR (D E : Nat) (w : World) (RR : List (List Int)) : Prop :=
  ∃ Bs : Nat → Option Addr, LLn D RR.length w (some ⟨D, 0, none⟩) Bs (lsZ RR) (lsZ RR) (fZ RR) ∧ (∀ i j, i < RR.length → j < RR.length → i ≠ j → Apart (Bs i) (lsZ RR i) (Bs j) (lsZ RR j)) ∧ ∀ i, i < RR.length → ∀ p, InS (Bs i) (lsZ RR i) p → p.block < E
theorem CpyR.next {D E : Nat} {w w' : World} {RR : List (List Int)} (h : CpyR D E w RR) (hb : Below w.heap.size w w') : CpyR D E w' RR := by
  obtain ⟨Bs, h1, h2, h3⟩ := h
  exact ⟨Bs, h1.next hb, h2, h3⟩
theorem CpyR.rws {D E : Nat} {w : World} {RR : List (List Int)} (h : CpyR D E w RR) : Rws w w.heap.size (.slice (some ⟨D, 0, none⟩) RR.length RR.length) RR := by
  obtain ⟨Bs, h1, _, _⟩ := h
  exact h1.rws _
theorem CpyR.marked {D E g1 g2 k1 k2 : Nat} {w w' : World} {RR : List (List Int)} (h : CpyR D E w RR) (hs : w.heap.size ≤ w'.heap.size)
    (hk : ∀ p : Addr, p.block < w.heap.size → ¬ InS (some ⟨g1, 0, none⟩) k1 p → ¬ InS (some ⟨g2, 0, none⟩) k2 p → w'.cell? p = w.cell? p ∧ w'.frozen? p = w.frozen? p) (h1 : g1 < D) (h2 : g2 < D) : CpyR D E w' RR := by
  obtain ⟨Bs, a1, a2, a3⟩ := h
  exact ⟨Bs, a1.marked hs hk h1 h2, a2, a3⟩
theorem LLm.keepAll {D n n' E : Nat} {w w' : World} {A : Option Addr} {Bs Cs : Nat → Option Addr} {cs ls ms : Nat → Nat} {F : Nat → List Int} (h : LLm D n w A Bs cs ls F) (hb : ButAll w w' n' Cs ms) (hE : ∀ i, i < n' → ∀ p, InS (Cs i) (ms i) p → p.block < E) (hD : E ≤ D) : LLm D n w' A Bs cs ls F :=
  h.keep (by rw [hb.1]; exact Nat.le_refl _) fun p hp _ => hb.2 p fun i hi hin => by have := hE i hi p hin; omega
theorem Own.keepAll {D n n' E : Nat} {w w' : World} {A : Option Addr} {Cs : Nat → Option Addr} {ms : Nat → Nat} {xs : List Int} (h : Own w D A n xs) (hb : ButAll w w' n' Cs ms) (hE : ∀ i, i < n' → ∀ p, InS (Cs i) (ms i) p → p.block < E) (hD : E ≤ D) : Own w' D A n xs :=
  h.keep (by rw [hb.1]; exact Nat.le_refl _) fun p hp _ => hb.2 p fun i hi hin => by have := hE i hi p hin; omega
theorem tot_ls {RR : List (List Int)} (h : totZ RR ≤ 1048576) (i : Nat) : lsZ RR i ≤ 1048576 := by
  unfold totZ at h
  by_cases hi : i < RR.length
  · have := offN_le (ls := lsZ RR) hi
    omega
  · unfold lsZ fZ
    rw [List.getElem?_eq_none (by omega)]
    simp

set_option maxHeartbeats 8000000 in
theorem toIntSS_any (v : Value) (RR : List (List Int)) (w : World) (hR : Rws w w.heap.size v RR) (hlr : RR.length ≤ 1048576) (hle : ∀ i, lsZ RR i ≤ 1048576) :
    Calls Try.prog 21 #[v] w fun e w' => e = .returned (.slice (some ⟨w.heap.size, 0, none⟩) RR.length RR.length) ∧ CpyR w.heap.size w'.heap.size w' RR ∧ Below w.heap.size w w' := by
  obtain ⟨i0, hi, hz0, hz1, hz2⟩ := info_parts sl_info
  obtain ⟨A, cap, rfl, hA⟩ := hR
  have HA := Lib.hid hA
  have HLE := Lib.hid hle
  unfold CpyR
  obtain ⟨nr, hnr⟩ : ∃ x, RR.length = x := ⟨_, rfl⟩
  have HNR := Lib.hid hnr
  rw [hnr] at hlr ⊢
  obtain ⟨D, hD⟩ : ∃ D, w.heap.size = D := ⟨_, rfl⟩
  have HD := Lib.hid hD
  rw [hD]
  clear hA hnr hle
  go_enter Try.func21, Try.ntmps21
  go_wp2_with (at_make; refine wpList_make_full _ rfl _ _ 35 rfl D 22 i0 (.slice none 0 0) 1 Try.underlying35 hi hz0 hz1 .i64 .i64 _ _ nr rfl rfl rfl rfl (by rw [hz2]; omega) (by unfold maxLen; omega) (by omega) ?_; intro w1 hown1 hg1)
  have B1 := Lib.hid (show Below D w w1 from (Below.refl _ _).grown hg1 (by omega) (by simp))
  have O1 := Lib.hid (show w1.ownsRow D 22 1 (.slice (some ⟨D, 0, none⟩) nr nr) nr (cpL nr (fun _ => 0) (lsZ RR) 0) by
    rw [← cpL_zero, ← hD]; rw [← hD] at hown1; exact hown1)
  clear hown1 hg1 hD
  go_wp2_with (fail)
  go_loopg [4] nr (fun g2 vi wr => ∃ (y : Nat) (b : Nat → Nat), y ≤ nr ∧ nr ≤ y + g2 ∧ vi = .int .i64 y ∧ wr.ownsRow D 22 1 (.slice (some ⟨D, 0, none⟩) nr nr) nr (cpL nr b (lsZ RR) y) ∧ (∀ i, i < y → Own wr D (some ⟨b i, 0, none⟩) (lsZ RR i) (fZ RR i) ∧ D < b i ∧ b i < wr.heap.size) ∧ (∀ i j, i < y → j < y → i ≠ j → b i ≠ b j) ∧ Below D w wr)
  case atStart => exact ⟨0, fun _ => 0, Nat.zero_le _, by omega, rfl, O1.out, fun i hi => absurd hi (by omega), fun i j hi => absurd hi (by omega), B1.out⟩
  case round =>
    obtain ⟨y, b, hy, hg2, rfl, hown, hos, hne, hb⟩ := hrel
    have OW := Lib.hid hown
    have OS := Lib.hid hos
    have NE := Lib.hid hne
    have BW := Lib.hid hb
    have hlD := (hown.lt D rfl).2
    clear hown hos hne hb
    by_cases hlt : y < nr
    · obtain ⟨Z, hZ⟩ : ∃ Z, RR[y]? = some Z := ⟨_, List.getElem?_eq_getElem (by rw [HNR.out]; exact hlt)⟩
      obtain ⟨g, off, B, c, rfl, h2, hc, h4, h5, h6⟩ := HA.out y Z hZ
      have hck : wr.cell? ⟨g, off + y, none⟩ = some (.slice B Z.length c) := (BW.out.cell (p := ⟨g, off + y, none⟩) (by rw [← HD.out]; exact h2)).trans hc
      have e0 := fZ_some hZ
      have e1 : lsZ RR y = Z.length := by unfold lsZ; rw [e0]
      have IZ := Lib.hid (show Ints wr wr.heap.size B Z.length Z from (h6.below BW.out (by have := HD.out; omega)).more (by have := HD.out; omega))
      have hzl : Z.length ≤ 1048576 := by rw [← e1]; exact HLE.out y
      obtain ⟨ln, hln⟩ : ∃ x, Z.length = x := ⟨_, rfl⟩
      rw [hln] at hck h4 h5 e1 IZ hzl
      have E0 := Lib.hid e0
      have E1 := Lib.hid e1
      have HLN := Lib.hid hln
      have hcy := OW.out.cellAt y (by omega)
      rw [cpL_get hlt, if_neg (by omega)] at hcy
      have hfy := OW.out.frozenAt y
      have HCY := Lib.hid hcy
      have HFY := Lib.hid hfy
      clear hc hZ hln e0 e1 h6 hcy hfy
      have CS := Lib.hid (cpL_set (b := b) (ls := lsZ RR) (g := wr.heap.size) hlt)
      rw [E1.out] at CS
      go_wp2_with (go_at_call 13; refine (toIntS_any B ln c Z _ IZ.out hzl).mono ?_; rintro e w2 ⟨rfl, ow2, hb2⟩; have OZ := Lib.hid (own_of_row ow2 HLN.out); have hzw := (ow2.lt wr.heap.size rfl).2; have B2 := Lib.hid hb2; have O2 := Lib.hid (own_nextK OW.out hb2); have hcy := O2.out.cellAt y (by omega); rw [cpL_get hlt, if_neg (by omega)] at hcy; have hfy := O2.out.frozenAt y; clear hb2 ow2)
      have hs2 := B2.out.size
      go_roundg (nr - (y + 1))
      case measure => omega
      case rel =>
        refine ⟨y + 1, putF b y wr.heap.size, by omega, by omega, by go_num, by rw [← CS.out]; exact (O2.out.stored y _).1, fun i hi => ?_, fun i j hi hj hij => ?_, (BW.out.trans (B2.out.mono (by omega))).setCell (by show D ≤ D; exact Nat.le_refl _) _⟩
        · by_cases hiy : i = y
          · subst hiy
            have e9 : putF b i wr.heap.size i = wr.heap.size := if_pos rfl
            rw [e9, E1.out, E0.out]
            exact ⟨(OZ.out.down (by omega)).set_far (by show wr.heap.size ≠ D; omega), by omega, by simpa using hzw⟩
          · have e9 : putF b y wr.heap.size i = b i := if_neg hiy
            obtain ⟨h1, h2, h3⟩ := OS.out i (by omega)
            rw [e9]
            exact ⟨(h1.next B2.out).set_far (by show b i ≠ D; omega), h2, by simp; omega⟩
        · unfold putF
          by_cases hiy : i = y
          · rw [if_pos hiy, if_neg (by omega)]
            have := (OS.out j (by omega)).2.2
            omega
          · by_cases hjy : j = y
            · rw [if_neg hiy, if_pos hjy]
              have := (OS.out i (by omega)).2.2
              omega
            · rw [if_neg hiy, if_neg hjy]
              exact NE.out i j (by omega) (by omega) hij
    · have hym : y = nr := by omega
      subst hym
      go_wp2
      go_ret
      refine ⟨rfl, ⟨fun i => some ⟨b i, 0, none⟩, fun i hi => ?_, fun i j hi hj hij => ?_, fun i hi p hp => ?_⟩, BW.out⟩
      · obtain ⟨h1, h2, h3⟩ := OS.out i hi
        have hcl := OW.out.cellAt i (by omega)
        rw [cpL_get hi, if_pos hi] at hcl
        exact ⟨D, rfl, Nat.le_refl _, hlD, hcl, Nat.le_refl _, HLE.out i, h1, fun p hp => not_inS (by omega)⟩
      · rintro p ⟨g1, off1, k1, a1, a2, rfl⟩ ⟨g2', off2, k2, b1, b2, e⟩
        have := NE.out i j hi hj hij
        simp only [Option.some.injEq, Addr.mk.injEq, and_true] at a1 b1 e
        omega
      · obtain ⟨g1, off1, k1, a1, a2, rfl⟩ := hp
        simp only [Option.some.injEq, Addr.mk.injEq, and_true] at a1
        have := (OS.out i hi).2.2
        show g1 < _
        omega

section
open Go.ChangeShapes Go.WideShapes Go.ChangeAt Go.Joins
variable {H : Type} {enc : TypeId × Value → H} {w : World}
theorem rws_of_trod {t fuel : Nat} {v : Value} {x : DataW H × List MemPlace} (ht : Try.prog.underlying t = some (.slice 22)) (h : DataW.trod enc Try.prog w 0 (fun _ => true) true fuel t [v] = some x) (hlt : ∀ y ∈ x.2, y.block < w.heap.size) :
    ∃ RR, Rws w w.heap.size v RR ∧ RR.length ≤ 9223372036854775807 := by
  rcases Deep.open_int_rows ht Try.underlying22 Try.underlying3 (by kernel_rfl) Try.cellsInt h with ⟨hcs, _⟩ | ⟨a, len, cap, A, L, C, Z, hcs, _, hl, hm, hx, hc⟩
  · simp at hcs
    exact ⟨[], ⟨none, 0, hcs, fun i Z hZ => by simp at hZ⟩, by simp⟩
  · simp at hcs
    unfold maxLen at hm
    refine ⟨(List.range len).map fun r => (Z r).take (L r), ⟨some a, cap, by simpa using hcs, fun i Y hY => ?_⟩, by simp; omega⟩
    have hi : i < len := by have := (List.getElem?_eq_some_iff.1 hY).1; simpa using this
    rw [List.getElem?_map, List.getElem?_range hi] at hY
    simp only [Option.map_some, Option.some.injEq] at hY
    obtain ⟨e1, e2, e3, e4, _, e6, e7⟩ := hc i (by omega)
    unfold maxLen at e3
    have hYl : Y.length = L i := by rw [← hY, List.length_take]; omega
    obtain ⟨g, off, spot⟩ := a
    have hspot : spot = none := by simpa [Addr.add] using World.cell?_spot (hc 0 (by omega)).1
    subst hspot
    have hp : MemPlace.cell g off ∈ x.2 := by
      rw [hx]
      exact List.mem_append_left _ (MemPlace.mem_row.2 ⟨0, by omega, by simp⟩)
    rw [add_plain] at e1
    refine ⟨g, off, A i, C i, rfl, hlt _ hp, by rw [hYl]; exact e1, by omega, by omega, ?_⟩
    rw [hYl]
    refine ⟨hYl, fun h0 => ?_⟩
    cases hA : A i with
    | none => have := e6 hA; omega
    | some a' =>
      obtain ⟨_, e8⟩ := e7 a' hA
      obtain ⟨g', off', spot'⟩ := a'
      have hspot' : spot' = none := by simpa [Addr.add] using World.cell?_spot (e8 0 (by omega))
      subst hspot'
      have hp' : MemPlace.cell g' off' ∈ x.2 := by
        rw [hx]
        refine List.mem_append_right _ (List.mem_flatMap.2 ⟨i, List.mem_range.2 (by omega), ?_⟩)
        rw [hA]
        exact MemPlace.mem_row.2 ⟨0, by omega, by simp⟩
      refine ⟨g', off', rfl, hlt _ hp', fun k y hk => ?_⟩
      have hkl : k < L i := by have := (List.getElem?_eq_some_iff.1 hk).1; omega
      have := e8 k (by omega)
      rw [add_plain] at this
      rw [this, ← hY, List.getElem?_take, if_pos hkl] at *
      rw [List.getD_eq_getElem?_getD, hk]
      rfl
end

end Go.Proofs.Ytahdkdpliphcnaa

