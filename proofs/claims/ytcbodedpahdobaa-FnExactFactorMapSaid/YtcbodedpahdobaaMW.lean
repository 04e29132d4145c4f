/- Texts of this seat in one: KX KA KB KC KD KE KF. -/
import Derived.Test.YtcbodedpahdobaaMU
import Derived.Test.YtcbodedpahdobaaMG
import Derived.Test.YtcbodedpahdobaaMB
import Derived.Test.YtcbodedpahdobaaMA
import Derived.Deep.Cut
import Derived.Test.YtcbodedpahdobaaMC
import Derived.Test.YtcbodedpahdobaaMO
import Derived.Test.YtcbodedpahdobaaMN

/- Small lemmas for laws of two rings: their sizes, and marks of a second ring. -/
namespace Go.Proofs.Ytcbodedpahdobaa
open Go.RowKit

theorem szRr_yes {l : Int} {la lb : Nat} (h : (la : Int) + lb ≤ l) : szR l la lb = l - la - lb := if_pos h
theorem szRr_no {l : Int} {la lb : Nat} (h : ¬ (la : Int) + lb ≤ l) : szR l la lb = -1 := if_neg h

set_option maxHeartbeats 2000000 in
theorem markRingC_any (n o : Int) (A B : Option Addr) (la ca lb cb : Nat) (X Y : List Int) (b : Int) (w : World) (D : Nat) (hX : Own w D A la X) (hY : Own w D B lb Y) (ha : Apart A la B lb) (hD : D ≤ w.heap.size) (hla : la ≤ 1048576) (hlb : lb ≤ 1048576) (h0 : 0 ≤ b) (h1 : b ≤ 2097152) :
    Calls Try.prog 33 #[.agg #[.int .i64 n, .int .i64 o, .slice A la ca, .slice B lb cb], .int .i64 b] w fun e w' => e = .returned (.int .i64 (b + la + lb)) ∧ Own w' D A la (markL X la b la) ∧ Own w' D B lb (markL Y lb (b + la) lb) ∧
      (∀ p : Addr, p.block < w.heap.size → ¬ InS A la p → ¬ InS B lb p → w'.cell? p = w.cell? p ∧ w'.frozen? p = w.frozen? p) ∧ Below D w w' := by
  have b0 : Below w.heap.size w (w.alloc (.cells #[.int .i64 n, .int .i64 o, .slice A la ca, .slice B lb cb] 25)) := (Below.refl _ _).alloc (Nat.le_refl _) _
  have OX := Lib.hid (hX.next b0)
  have OY := Lib.hid (hY.next b0)
  have AP := Lib.hid ha
  have AQ := Lib.hid (show Apart B lb A la from fun p h1 h2 => ha p h2 h1)
  have hbx := Lib.hid (Blk.new w 25 #[.int .i64 n, .int .i64 o, .slice A la ca, .slice B lb cb])
  have nx := Lib.hid (show ∀ k, ¬ InS A la ⟨w.heap.size, k, none⟩ from own_not_new hX)
  have ny := Lib.hid (show ∀ k, ¬ InS B lb ⟨w.heap.size, k, none⟩ from own_not_new hY)
  have B0 := Lib.hid b0
  clear hX hY ha b0
  go_enter Try.func33, Try.ntmps33
  go_wp2_with (fail)
  obtain ⟨W, hW⟩ : ∃ W, w.alloc (.cells #[.int .i64 n, .int .i64 o, .slice A la ca, .slice B lb cb] 25) = W := ⟨_, rfl⟩
  rw [hW] at OX OY hbx B0 ⊢
  have hsz : W.heap.size = w.heap.size + 1 := by subst hW; simp
  have HS := Lib.hid hsz
  clear hW hsz
  refine (markIntS_any A la ca X b W D OX.out hla h0 (by omega)).mono ?_
  rintro e1 w1 ⟨rfl, o1, bi1, bl1⟩
  have c3 := (bi1.2 ⟨w.heap.size, 3, none⟩ (nx.out 3)).1.trans (hbx.out.cell 3)
  have OX1 := Lib.hid o1
  have OY1 := Lib.hid (OY.out.kept bi1 AQ.out)
  have BI1 := Lib.hid bi1
  have BL1 := Lib.hid bl1
  simp at c3
  clear o1 bi1 bl1
  go_wp2_with (fail)
  refine (markIntS_any B lb cb Y (b + la) w1 D OY1.out hlb (by omega) (by omega)).mono ?_
  rintro e2 w2 ⟨rfl, o2, bi2, bl2⟩
  have OX2 := Lib.hid (OX1.out.kept bi2 AP.out)
  have OY2 := Lib.hid o2
  have BI2 := Lib.hid bi2
  have BL2 := Lib.hid bl2
  clear o2 bi2 bl2
  go_wp2
  go_ret
  refine ⟨rfl, OX2.out, OY2.out, fun p hp h3 h4 => ?_, ((B0.out.mono hD).trans BL1.out).trans BL2.out⟩
  have e1 := BI1.out.2 p h3
  have e2 := BI2.out.2 p h4
  exact ⟨e2.1.trans (e1.1.trans (B0.out.cell hp)), e2.2.trans (e1.2.trans (B0.out.frozen hp))⟩

end Go.Proofs.Ytcbodedpahdobaa


/- ThenMap of both sides. -/
namespace Go.Proofs.Ytcbodedpahdobaa
open Go.RowKit
set_option maxRecDepth 100000

/-- Lists that a call hands out, of as many numbers as the laws take. -/
def SliceOutM (D : Nat) (w : World) (v : Value) (Z : List Int) : Prop := ∃ A l c, v = .slice A l c ∧ Own w D A l Z ∧ l ≤ c ∧ l ≤ 1048576
theorem SliceOutM.nil {D : Nat} {w : World} : SliceOutM D w (.slice none 0 0) [] := ⟨none, 0, 0, rfl, Own.nil, Nat.le_refl _, by omega⟩
theorem SliceOutM.of_row {D n : Nat} {w : World} {v : Value} {Z : List Int} {T : TypeId} (h : w.ownsRow D T 1 v n (Z.map (.int .i64))) (hn : Z.length = n) (hl : n ≤ 1048576) : SliceOutM D w v Z := by
  rcases h.2 with ⟨rfl, h0⟩ | ⟨g, cap, cur, rfl, _, _, hc, _⟩
  · subst h0
    obtain rfl := List.eq_nil_of_length_eq_zero hn
    exact SliceOutM.nil
  · exact ⟨_, _, _, rfl, own_of_row h hn, hc, hl⟩

noncomputable def thnF (K : List Int) (a : Int) : Int := K[a.toNat]?.getD 0
noncomputable def thnB (L K : List Int) : Bool := allB K.length L
noncomputable def thnL (L K : List Int) : List Int := if thnB L K = true then L.map (thnF K) else []
theorem thn_yes {L K : List Int} (h : thnB L K = true) : thnL L K = L.map (thnF K) := if_pos h
theorem thn_no {L K : List Int} (h : thnB L K = false) : thnL L K = [] := if_neg (by rw [h]; simp)
theorem thn_snoc {L K : List Int} {k : Nat} (hk : k < L.length) : (L.take (k + 1)).map (thnF K) = (L.take k).map (thnF K) ++ [thnF K (L[k]?.getD 0)] := by
  rw [List.take_succ_eq_append_getElem hk, List.map_append, List.getElem?_eq_getElem hk]; rfl

set_option maxHeartbeats 4000000 in
theorem then_any (A B : Option Addr) (n k ca cb : Nat) (L K : List Int) (w : World) (hL : Ints w w.heap.size A n L) (hK : Ints w w.heap.size B k K) (hn : n ≤ 1048576) (hk : k ≤ 1048576) :
    Calls Try.prog 51 #[.slice A n ca, .slice B k cb] w fun e w' => ∃ v, e = .returned (.tuple #[v, .bool (thnB L K)]) ∧ SliceOutM w.heap.size w' v (thnL L K) ∧ Below w.heap.size w w' := by
  obtain ⟨i0, hi, hz0, hz1, hz2⟩ := info_parts int_info
  have HL := Lib.hid hL
  have HK := Lib.hid hK
  clear hL hK
  go_enter Try.func51, Try.ntmps51
  go_wp2_with (at_make; refine wpList_make_own _ rfl _ _ 23 rfl w.heap.size 3 i0 (.int .i64 0) 1 Try.underlying23 hi hz0 hz1 _ _ _ n rfl rfl rfl (by rw [hz2]; omega) (by unfold maxLen; omega) (Nat.le_refl _) ?_; intro w1 hown1 hg1)
  have O1 := Lib.hid hown1
  have B1 := Lib.hid ((Below.refl w.heap.size w).grown hg1 (Nat.le_refl _) (by simp))
  clear hown1 hg1
  go_loopg [6, 14] n (fun g2 vs vi wr => ∃ j : Nat, j ≤ n ∧ n ≤ j + g2 ∧ vi = .int .i64 j ∧ UpTo K.length L j ∧ wr.ownsRow w.heap.size 3 1 vs j (((L.take j).map (thnF K)).map (.int .i64)) ∧ Below w.heap.size w wr)
  case atStart => exact ⟨0, Nat.zero_le _, by omega, rfl, fun j hj => absurd hj (by omega), by simpa using O1.out, B1.out⟩
  case round =>
    obtain ⟨j, hj, hg2, rfl, hup, hown, hb⟩ := hrel
    have hsz := hb.size
    have OW := Lib.hid hown
    have BW := Lib.hid hb
    have HU := Lib.hid hup
    clear hown hb hup
    by_cases hlt : j < n
    · have hjL : j < L.length := by rw [HL.out.1]; exact hlt
      obtain ⟨b1, o1, rfl, hb1, hc1⟩ := HL.out.at_ hlt
      have hc := (BW.out.cell (p := ⟨b1, o1 + j, none⟩) hb1).trans hc1
      clear hc1
      obtain ⟨x, hx⟩ : ∃ x, L[j]?.getD 0 = x := ⟨_, rfl⟩
      have HX := Lib.hid hx
      rw [hx] at hc
      clear hx
      have HKL := Lib.hid HK.out.1
      by_cases hx0 : x < 0
      · have hz := Lib.hid (show thnB L K = false from allB_false hjL (by rw [HX.out]; exact inB_false (by omega)))
        go_wp2
        go_ret2
        exact ⟨.slice none 0 0, by rw [hz.out]; rfl, by rw [thn_no hz.out]; exact SliceOutM.nil, BW.out⟩
      · by_cases hxk : x < k
        · obtain ⟨y, rfl⟩ : ∃ y : Nat, x = (y : Int) := ⟨x.toNat, by omega⟩
          have hyk : y < k := by omega
          obtain ⟨b2, o2, rfl, hb2, hc2⟩ := HK.out.at_ hyk
          have hd := (BW.out.cell (p := ⟨b2, o2 + y, none⟩) hb2).trans hc2
          obtain ⟨z, hz⟩ : ∃ z, K[y]?.getD 0 = z := ⟨_, rfl⟩
          rw [hz] at hd
          have HZ := Lib.hid (show thnF K (L[j]?.getD 0) = z by rw [HX.out]; exact hz)
          have HIN := Lib.hid (show inB K.length (L[j]?.getD 0) = true by rw [HX.out, HKL.out]; exact inB_true (by omega))
          clear hc2 hz
          have wr2 : Below wr.heap.size wr (wr.alloc (.cells #[.int .i64 z] 3)) := (Below.refl _ _).alloc (Nat.le_refl _) _
          go_wp2_with (at_builtin; refine wpList_append_own _ rfl _ _ 23 rfl w.heap.size 3 i0 (.int .i64 0) 1 8 Try.underlying23 hi hz0 hz1 hz2 rfl (by decide) _ _ _ rfl (OW.out.alloc _) ⟨wr.heap.size, 0, none⟩ 1 1 [.int .i64 z] rfl rfl (by intro i u hi; match i, hi with | 0, hi => simp at hi; subst hi; simp [Addr.add]) (by intro u hu; simp at hu; subst hu; rfl) (by unfold maxLen; omega) (by omega) (by simp; omega) ?_; intro v6 w6 hown6 hg6 _; have B6 := Lib.hid ((BW.out.trans (wr2.mono hsz)).grown hg6 (Nat.le_trans hsz wr2.size) (fun k hk => (OW.out.lt k hk).1)); have O6 := Lib.hid (show w6.ownsRow w.heap.size 3 1 v6 (j + 1) (((L.take (j + 1)).map (thnF K)).map (.int .i64)) by rw [thn_snoc hjL, HZ.out, List.map_append]; exact hown6); clear hown6 hg6)
          go_roundg (n - (j + 1))
          case measure => omega
          case rel => exact ⟨j + 1, by omega, by omega, by go_num, upTo_succ HU.out HIN.out, O6.out, B6.out⟩
        · have hz := Lib.hid (show thnB L K = false from allB_false hjL (by rw [HX.out, HKL.out]; exact inB_false (by omega)))
          go_wp2
          go_ret2
          exact ⟨.slice none 0 0, by rw [hz.out]; rfl, by rw [thn_no hz.out]; exact SliceOutM.nil, BW.out⟩
    · have hjn : j = n := by omega
      subst hjn
      have hz := Lib.hid (show thnB L K = true from allB_true (by rw [HL.out.1]; exact HU.out))
      go_wp2
      go_ret2
      refine ⟨_, by rw [hz.out]; rfl, ?_, BW.out⟩
      rw [thn_yes hz.out]
      have e0 : L.take j = L := List.take_of_length_le (by rw [HL.out.1]; exact Nat.le_refl _)
      rw [← e0]
      exact SliceOutM.of_row OW.out (by rw [List.length_map, List.length_take, HL.out.1]; omega) hn

set_option maxHeartbeats 4000000 in
theorem sthen_any (A B : Option Addr) (n k ca cb : Nat) (L K : List Int) (w : World) (hL : Ints w w.heap.size A n L) (hK : Ints w w.heap.size B k K) (hn : n ≤ 1048576) (hk : k ≤ 1048576) :
    Calls Try.prog 50 #[.slice A n ca, .slice B k cb] w fun e w' => ∃ v, e = .returned (.tuple #[v, .bool (thnB L K)]) ∧ SliceOutM w.heap.size w' v (thnL L K) ∧ Below w.heap.size w w' := by
  obtain ⟨i0, hi, hz0, hz1, hz2⟩ := info_parts int_info
  have HL := Lib.hid hL
  have HK := Lib.hid hK
  clear hL hK
  have o0 := own_lit_K (w := w) (e := 3) [] (Nat.le_refl w.heap.size) (by unfold maxLen; simp)
  have b0 : Below w.heap.size w (w.alloc (.cells #[] 3)) := (Below.refl _ _).alloc (Nat.le_refl _) _
  have O1 := Lib.hid o0
  have B1 := Lib.hid b0
  clear o0 b0
  go_enter Try.func50, Try.ntmps50
  go_wp2
  go_loopg [6, 12] n (fun g2 vs vi wr => ∃ j : Nat, j ≤ n ∧ n ≤ j + g2 ∧ vi = .int .i64 j ∧ UpTo K.length L j ∧ wr.ownsRow w.heap.size 3 1 vs j (((L.take j).map (thnF K)).map (.int .i64)) ∧ Below w.heap.size w wr)
  case atStart => exact ⟨0, Nat.zero_le _, by omega, rfl, fun j hj => absurd hj (by omega), by simpa using O1.out, B1.out⟩
  case round =>
    obtain ⟨j, hj, hg2, rfl, hup, hown, hb⟩ := hrel
    have hsz := hb.size
    have OW := Lib.hid hown
    have BW := Lib.hid hb
    have HU := Lib.hid hup
    clear hown hb hup
    by_cases hlt : j < n
    · have hjL : j < L.length := by rw [HL.out.1]; exact hlt
      obtain ⟨b1, o1, rfl, hb1, hc1⟩ := HL.out.at_ hlt
      have hc := (BW.out.cell (p := ⟨b1, o1 + j, none⟩) hb1).trans hc1
      clear hc1
      obtain ⟨x, hx⟩ : ∃ x, L[j]?.getD 0 = x := ⟨_, rfl⟩
      have HX := Lib.hid hx
      rw [hx] at hc
      clear hx
      have HKL := Lib.hid HK.out.1
      by_cases hin : 0 ≤ x ∧ x ≤ (k : Int) - 1
      · have hic := Lib.hid (inC_true hin)
        obtain ⟨y, rfl⟩ : ∃ y : Nat, x = (y : Int) := ⟨x.toNat, by omega⟩
        have hyk : y < k := by omega
        have y0 : (0 : Int) ≤ (y : Int) := by omega
        have yk : (y : Int) < (k : Int) := by omega
        obtain ⟨b2, o2, rfl, hb2, hc2⟩ := HK.out.at_ hyk
        have hd := (BW.out.cell (p := ⟨b2, o2 + y, none⟩) hb2).trans hc2
        obtain ⟨z, hz⟩ : ∃ z, K[y]?.getD 0 = z := ⟨_, rfl⟩
        rw [hz] at hd
        have HZ := Lib.hid (show thnF K (L[j]?.getD 0) = z by rw [HX.out]; exact hz)
        have HIN := Lib.hid (show inB K.length (L[j]?.getD 0) = true by rw [HX.out, HKL.out]; exact inB_true (by omega))
        clear hc2 hz hin
        have wr2 : Below wr.heap.size wr (wr.alloc (.cells #[.int .i64 z] 3)) := (Below.refl _ _).alloc (Nat.le_refl _) _
        go_wp2_with (first
          | (go_at_call 101; refine (l1In_any _ _ _ _).mono ?_; rintro e5 w5 ⟨rfl, rfl⟩; rw [hic.out])
          | (at_builtin; refine wpList_append_own _ rfl _ _ 23 rfl w.heap.size 3 i0 (.int .i64 0) 1 8 Try.underlying23 hi hz0 hz1 hz2 rfl (by decide) _ _ _ rfl (OW.out.alloc _) ⟨wr.heap.size, 0, none⟩ 1 1 [.int .i64 z] rfl rfl (by intro i u hi; match i, hi with | 0, hi => simp at hi; subst hi; simp [Addr.add]) (by intro u hu; simp at hu; subst hu; rfl) (by unfold maxLen; omega) (by omega) (by simp; omega) ?_; intro v6 w6 hown6 hg6 _; have B6 := Lib.hid ((BW.out.trans (wr2.mono hsz)).grown hg6 (Nat.le_trans hsz wr2.size) (fun k hk => (OW.out.lt k hk).1)); have O6 := Lib.hid (show w6.ownsRow w.heap.size 3 1 v6 (j + 1) (((L.take (j + 1)).map (thnF K)).map (.int .i64)) by rw [thn_snoc hjL, HZ.out, List.map_append]; exact hown6); clear hown6 hg6))
        go_roundg (n - (j + 1))
        case measure => omega
        case rel => exact ⟨j + 1, by omega, by omega, by go_num, upTo_succ HU.out HIN.out, O6.out, B6.out⟩
      · have hic := Lib.hid (inC_false hin)
        have hz := Lib.hid (show thnB L K = false from allB_false hjL (by rw [HX.out, HKL.out]; exact inB_false (by omega)))
        clear hin
        go_wp2_with (go_at_call 101; refine (l1In_any _ _ _ _).mono ?_; rintro e5 w5 ⟨rfl, rfl⟩; rw [hic.out])
        go_ret2
        refine ⟨_, by rw [hz.out]; rfl, ?_, BW.out.alloc hsz _⟩
        rw [thn_no hz.out]
        exact SliceOutM.of_row (n := 0) (own_lit_K [] hsz (by unfold maxLen; simp)) rfl (by omega)
    · have hjn : j = n := by omega
      subst hjn
      have hz := Lib.hid (show thnB L K = true from allB_true (by rw [HL.out.1]; exact HU.out))
      go_wp2
      go_ret2
      refine ⟨_, by rw [hz.out]; rfl, ?_, BW.out⟩
      rw [thn_yes hz.out]
      have e0 : L.take j = L := List.take_of_length_le (by rw [HL.out.1]; exact Nat.le_refl _)
      rw [← e0]
      exact SliceOutM.of_row OW.out (by rw [List.length_map, List.length_take, HL.out.1]; omega) hn

end Go.Proofs.Ytcbodedpahdobaa


/- Maps between two rings: what respects of the program answers. -/
namespace Go.Proofs.Ytcbodedpahdobaa
open Go.RowKit
set_option maxRecDepth 100000

def HomAt (m m' : Nat) (S P S' P' F : Nat → Nat) (a b : Nat) : Prop := F (S (a * m + b)) = S' (F a * m' + F b) ∧ F (P (a * m + b)) = P' (F a * m' + F b)
def HomTo2 (m m' : Nat) (S P S' P' F : Nat → Nat) (a k : Nat) : Prop := ∀ b, b < k → HomAt m m' S P S' P' F a b
def HomTo (m m' : Nat) (S P S' P' F : Nat → Nat) (k : Nat) : Prop := ∀ a, a < k → HomTo2 m m' S P S' P' F a m
noncomputable def homB (m e m' e' : Nat) (S P S' P' F : Nat → Nat) : Bool := propB (F e = e' ∧ HomTo m m' S P S' P' F m)
/-- A list of elements below a bound. -/
def Lst (w : World) (B b off n m' : Nat) (F : Nat → Nat) : Prop := b < B ∧ ∀ k, k < n → w.cell? ⟨b, off + k, none⟩ = some (.int .i64 (F k)) ∧ F k < m'
theorem Lst.next {w w' : World} {b off n m' : Nat} {F : Nat → Nat} (h : Lst w w.heap.size b off n m' F) (hb : Below w.heap.size w w') : Lst w' w'.heap.size b off n m' F :=
  ⟨Nat.lt_of_lt_of_le h.1 hb.size, fun k hk => ⟨(hb.cell (p := ⟨b, off + k, none⟩) h.1).trans (h.2 k hk).1, (h.2 k hk).2⟩⟩
theorem bne_no {x y : Nat} (h : x = y) : ((x : Int) != (y : Int)) = false := by rw [bne_eq_false_iff_eq]; omega
theorem bne_yes {x y : Nat} (h : ¬ x = y) : ((x : Int) != (y : Int)) = true := by rw [bne_iff_ne]; omega

set_option maxHeartbeats 8000000 in
theorem respects_any (b off cap : Nat) (F : Nat → Nat) (m e b1 o1 la ca b2 o2 lb cb : Nat) (S P : Nat → Nat) (w : World) (hr : RingAt w m e b1 o1 la ca b2 o2 lb cb S P) (m' e' b1' o1' la' ca' b2' o2' lb' cb' : Nat) (S' P' : Nat → Nat) (hr' : RingAt w m' e' b1' o1' la' ca' b2' o2' lb' cb' S' P') (hL : Lst w w.heap.size b off m m' F) :
    Calls Try.prog 98 #[.agg #[.int .i64 m, .int .i64 e, .slice (some ⟨b1, o1, none⟩) la ca, .slice (some ⟨b2, o2, none⟩) lb cb], .agg #[.int .i64 m', .int .i64 e', .slice (some ⟨b1', o1', none⟩) la' ca', .slice (some ⟨b2', o2', none⟩) lb' cb'], .slice (some ⟨b, off, none⟩) m cap] w fun e0 w' => e0 = .returned (.bool (homB m e m' e' S P S' P' F)) ∧ Below w.heap.size w w' := by
  obtain ⟨W, hW⟩ : ∃ W, (w.alloc (.cells #[.int .i64 m, .int .i64 e, .slice (some ⟨b1, o1, none⟩) la ca, .slice (some ⟨b2, o2, none⟩) lb cb] 25)).alloc (.cells #[.int .i64 m', .int .i64 e', .slice (some ⟨b1', o1', none⟩) la' ca', .slice (some ⟨b2', o2', none⟩) lb' cb'] 25) = W := ⟨_, rfl⟩
  have k0 : Blk W w.heap.size 25 #[.int .i64 m, .int .i64 e, .slice (some ⟨b1, o1, none⟩) la ca, .slice (some ⟨b2, o2, none⟩) lb cb] := by
    subst hW; exact (Blk.new w _ _).alloc _
  have k1 : Blk W (w.heap.size + 1) 25 #[.int .i64 m', .int .i64 e', .slice (some ⟨b1', o1', none⟩) la' ca', .slice (some ⟨b2', o2', none⟩) lb' cb'] := by
    subst hW
    have := Blk.new (w.alloc (.cells #[.int .i64 m, .int .i64 e, .slice (some ⟨b1, o1, none⟩) la ca, .slice (some ⟨b2, o2, none⟩) lb cb] 25)) 25 #[.int .i64 m', .int .i64 e', .slice (some ⟨b1', o1', none⟩) la' ca', .slice (some ⟨b2', o2', none⟩) lb' cb']
    rw [World.size_alloc] at this
    exact this
  have b0 : Below w.heap.size w W := by
    subst hW; exact ((Below.refl _ _).alloc (Nat.le_refl _) _).alloc (by simp) _
  have hm := hr.hm
  have hm' := hr.hm'
  have he := hr.he
  have HR := Lib.hid (hr.next b0)
  have HR' := Lib.hid (hr'.next b0)
  have HL := Lib.hid (hL.next b0)
  have K0 := Lib.hid k0
  have K1 := Lib.hid k1
  have B0 := Lib.hid b0
  have HW := Lib.hid hW
  have hf := ((hL.next b0).2 e he).1
  obtain ⟨c0, c1, c2, c3⟩ := blk4 k0
  obtain ⟨d0, d1, d2, d3⟩ := blk4 k1
  clear hr hr' hL k0 k1 b0 hW
  by_cases h1 : F e = e'
  · have t0 := bne_no h1
    have HE := Lib.hid h1
    have q1 : F e ≤ e' := by omega
    have q2 : e' ≤ F e := by omega
    clear h1
    go_enter Try.func98, Try.ntmps98
    go_upto_region 1 with (fail)
    rw [HW.out]
    go_quiet (fail)
    go_wp2
    go_loopg [19] m (fun g vi wr => ∃ a : Nat, a ≤ m ∧ m ≤ a + g ∧ vi = .int .i64 a ∧ HomTo m m' S P S' P' F a ∧ Below W.heap.size W wr)
    case atStart => exact ⟨0, Nat.zero_le _, by omega, rfl, fun j hj => absurd hj (by omega), below_drewN (Below.refl _ _) _⟩
    case round =>
      obtain ⟨a, ha, hg, rfl, hup, hb⟩ := hrel
      have HU := Lib.hid hup
      have BW := Lib.hid hb
      obtain ⟨x0, x1, x2, x3⟩ := blk4 (K0.out.next hb)
      clear c0 c1 c2 c3 d0 d1 d2 d3 hf hb hup
      by_cases hlt : a < m
      · go_wp2
        obtain ⟨g1, hg1⟩ : ∃ g1 : Nat, g1 = gk := ⟨_, rfl⟩
        go_loopg [24] m (fun g vi w2 => ∃ c : Nat, c ≤ m ∧ m ≤ c + g ∧ vi = .int .i64 c ∧ HomTo2 m m' S P S' P' F a c ∧ Below W.heap.size W w2)
        case atStart => exact ⟨0, Nat.zero_le _, by omega, rfl, fun j hj => absurd hj (by omega), BW.out⟩
        case round =>
          obtain ⟨c, hc, hgc, rfl, hup2, hb⟩ := hrel
          have HU2 := Lib.hid hup2
          have BW2 := Lib.hid hb
          clear x0 x1 x2 x3
          obtain ⟨x0, x1, x2, x3⟩ := blk4 (K0.out.next hb)
          obtain ⟨y0, y1, y2, y3⟩ := blk4 (K1.out.next hb)
          have RW := Lib.hid (HR.out.next hb)
          have RW' := Lib.hid (HR'.out.next hb)
          have LW := Lib.hid (HL.out.next hb)
          clear hb hup2
          by_cases hlt2 : c < m
          · have hs := RW.out.ts.lt hlt hlt2
            have hp := RW.out.tp.lt hlt hlt2
            obtain ⟨f1, l1⟩ := LW.out.2 a hlt
            obtain ⟨f2, l2⟩ := LW.out.2 c hlt2
            obtain ⟨f3, l3⟩ := LW.out.2 _ hs
            obtain ⟨f4, l4⟩ := LW.out.2 _ hp
            by_cases hS : F (S (a * m + c)) = S' (F a * m' + F c)
            · have t1 := bne_no hS
              have HS := Lib.hid hS
              by_cases hP : F (P (a * m + c)) = P' (F a * m' + F c)
              · have t2 := bne_no hP
                have HP := Lib.hid hP
                have u1 : F (S (a * m + c)) ≤ S' (F a * m' + F c) := by omega
                have u2 : S' (F a * m' + F c) ≤ F (S (a * m + c)) := by omega
                have u3 : F (P (a * m + c)) ≤ P' (F a * m' + F c) := by omega
                have u4 : P' (F a * m' + F c) ≤ F (P (a * m + c)) := by omega
                clear hS hP
                go_wp2
                refine wp_region_ext (by kernel_rfl) (by kernel_rfl) ?_
                repeat (go_big_quiet_step (((first
                  | (go_at_call 122; ((with_reducible refine calls_ext (sum_any a c m e b1 o1 la ca b2 o2 lb cb S P _ (RW.out.ext _) hlt hlt2))))
                  | (go_at_call 122; ((with_reducible refine calls_ext (sum_any (F a) (F c) m' e' b1' o1' la' ca' b2' o2' lb' cb' S' P' _ (RW'.out.ext _) l1 l2))))
                  | (go_at_call 123; ((with_reducible refine calls_ext (product_any a c m e b1 o1 la ca b2 o2 lb cb S P _ (RW.out.ext _) hlt hlt2))))
                  | (go_at_call 123; ((with_reducible refine calls_ext (product_any (F a) (F c) m' e' b1' o1' la' ca' b2' o2' lb' cb' S' P' _ (RW'.out.ext _) l1 l2))))))))
                refine wpQuiet_nil ?_
                intro w3 hb3
                have B3 := Lib.hid (BW2.out.trans (hb3.mono BW2.out.size))
                clear hb3
                go_wp2
                go_roundg (m - (c + 1))
                case measure => omega
                case rel => exact ⟨c + 1, by omega, by omega, by go_num, forall_succ HU2.out ⟨HS.out, HP.out⟩, B3.out⟩
              · have t2 := bne_yes hP
                have HP := Lib.hid hP
                have u1 : F (S (a * m + c)) ≤ S' (F a * m' + F c) := by omega
                have u2 : S' (F a * m' + F c) ≤ F (S (a * m + c)) := by omega
                clear hS hP
                go_wp2
                refine wp_region_ext (by kernel_rfl) (by kernel_rfl) ?_
                repeat (go_big_quiet_step (((first
                  | (go_at_call 122; ((with_reducible refine calls_ext (sum_any a c m e b1 o1 la ca b2 o2 lb cb S P _ (RW.out.ext _) hlt hlt2))))
                  | (go_at_call 122; ((with_reducible refine calls_ext (sum_any (F a) (F c) m' e' b1' o1' la' ca' b2' o2' lb' cb' S' P' _ (RW'.out.ext _) l1 l2))))
                  | (go_at_call 123; ((with_reducible refine calls_ext (product_any a c m e b1 o1 la ca b2 o2 lb cb S P _ (RW.out.ext _) hlt hlt2))))
                  | (go_at_call 123; ((with_reducible refine calls_ext (product_any (F a) (F c) m' e' b1' o1' la' ca' b2' o2' lb' cb' S' P' _ (RW'.out.ext _) l1 l2))))))))
                refine wpQuiet_nil ?_
                intro w3 hb3
                have B3 := Lib.hid (BW2.out.trans (hb3.mono BW2.out.size))
                clear hb3
                go_wp2
                go_ret
                exact ⟨ret_bool (propB_false fun g => HP.out (g.2 a hlt c hlt2).2).symm, B0.out.trans (B3.out.mono B0.out.size)⟩
            · have t1 := bne_yes hS
              have HS := Lib.hid hS
              clear hS
              go_wp2
              refine wp_region_ext (by kernel_rfl) (by kernel_rfl) ?_
              repeat (go_big_quiet_step (((first
                | (go_at_call 122; ((with_reducible refine calls_ext (sum_any a c m e b1 o1 la ca b2 o2 lb cb S P _ (RW.out.ext _) hlt hlt2))))
                | (go_at_call 122; ((with_reducible refine calls_ext (sum_any (F a) (F c) m' e' b1' o1' la' ca' b2' o2' lb' cb' S' P' _ (RW'.out.ext _) l1 l2))))))))
              refine wpQuiet_nil ?_
              intro w3 hb3
              have B3 := Lib.hid (BW2.out.trans (hb3.mono BW2.out.size))
              clear hb3
              go_wp2
              go_ret
              exact ⟨ret_bool (propB_false fun g => HS.out (g.2 a hlt c hlt2).1).symm, B0.out.trans (B3.out.mono B0.out.size)⟩
          · go_wp2
            go_roundg (m - (a + 1))
            case measure => omega
            case rel => exact ⟨a + 1, by omega, by omega, by go_num, forall_succ HU.out (fun j hj => HU2.out j (by omega)), BW2.out⟩
      · go_wp2
        go_ret
        exact ⟨ret_bool (propB_true ⟨HE.out, fun j hj => HU.out j (by omega)⟩).symm, B0.out.trans (BW.out.mono B0.out.size)⟩
  · have t0 := bne_yes h1
    have HE := Lib.hid h1
    clear h1
    go_enter Try.func98, Try.ntmps98
    go_upto_region 1 with (fail)
    rw [HW.out]
    go_quiet (fail)
    go_wp2
    go_ret
    exact ⟨ret_bool (propB_false fun g => HE.out g.1).symm, below_drewN B0.out _⟩

end Go.Proofs.Ytcbodedpahdobaa


/- IsHom of the program. -/
namespace Go.Proofs.Ytcbodedpahdobaa
open Go.RowKit
set_option maxRecDepth 100000

/-- What IsHom answers. -/
noncomputable def isHomB (n o : Int) (X Y : List Int) (n' o' : Int) (X' Y' L : List Int) : Bool := validB n o X Y && (validB n' o' X' Y' && (decide ((L.length : Int) = n) && (allB n' L && homB n.toNat o.toNat n'.toNat o'.toNat (tabOf X) (tabOf Y) (tabOf X') (tabOf Y') (tabOf L))))
section
variable {n o n' o' : Int} {X Y X' Y' L : List Int}
theorem hom_no1 (h : validB n o X Y = false) : isHomB n o X Y n' o' X' Y' L = false := by unfold isHomB; rw [h]; rfl
theorem hom_no2 (h : validB n' o' X' Y' = false) : isHomB n o X Y n' o' X' Y' L = false := by unfold isHomB; rw [h]; simp
theorem hom_no3 (h : ¬ (L.length : Int) = n) : isHomB n o X Y n' o' X' Y' L = false := by unfold isHomB; rw [decide_eq_false h]; simp
theorem hom_no4 (h : allB n' L = false) : isHomB n o X Y n' o' X' Y' L = false := by unfold isHomB; rw [h]; simp
theorem hom_yes (h1 : validB n o X Y = true) (h2 : validB n' o' X' Y' = true) (h3 : (L.length : Int) = n) (h4 : allB n' L = true) : isHomB n o X Y n' o' X' Y' L = homB n.toNat o.toNat n'.toNat o'.toNat (tabOf X) (tabOf Y) (tabOf X') (tabOf Y') (tabOf L) := by
  unfold isHomB; rw [h1, h2, decide_eq_true h3, h4]; rfl
/-- What a homomorphism is. -/
theorem hom_data (h : isHomB n o X Y n' o' X' Y' L = true) : validB n o X Y = true ∧ validB n' o' X' Y' = true ∧ (L.length : Int) = n ∧ allB n' L = true ∧ homB n.toNat o.toNat n'.toNat o'.toNat (tabOf X) (tabOf Y) (tabOf X') (tabOf Y') (tabOf L) = true := by
  unfold isHomB at h
  rw [Bool.and_eq_true, Bool.and_eq_true, Bool.and_eq_true, Bool.and_eq_true, decide_eq_true_iff] at h
  exact ⟨h.1, h.2.1, h.2.2.1, h.2.2.2.1, h.2.2.2.2⟩
theorem lst_of {w : World} {B n m' : Nat} {C : Option Addr} (hL : Ints w B C n L) (h : allB (m' : Int) L = true) (h0 : 0 < n) : ∃ b off, C = some ⟨b, off, none⟩ ∧ Lst w B b off n m' (tabOf L) := by
  obtain ⟨b, off, e, hb, hc⟩ := hL.2 h0
  refine ⟨b, off, e, hb, fun k hk => ?_⟩
  have hkl : k < L.length := by rw [hL.1]; exact hk
  have h1 := of_decide_eq_true h k hkl
  have h2 := of_decide_eq_true h1
  rw [hc k _ (List.getElem?_eq_getElem hkl)]
  rw [List.getElem?_eq_getElem hkl] at h2
  simp only [Option.getD_some] at h2
  unfold tabOf
  rw [List.getElem?_eq_getElem hkl, Option.getD_some]
  refine ⟨?_, by omega⟩
  rw [Int.toNat_of_nonneg h2.1]
end

set_option maxHeartbeats 8000000 in
theorem isHom_any (n o : Int) (A B : Option Addr) (la ca lb cb : Nat) (X Y : List Int) (n' o' : Int) (A' B' : Option Addr) (la' ca' lb' cb' : Nat) (X' Y' : List Int) (C : Option Addr) (len cap : Nat) (L : List Int) (w : World) (hX : Ints w w.heap.size A la X) (hY : Ints w w.heap.size B lb Y) (hla : la ≤ 9223372036854775807) (hlb : lb ≤ 9223372036854775807) (hca : la ≤ ca) (hcb : lb ≤ cb) (hX' : Ints w w.heap.size A' la' X') (hY' : Ints w w.heap.size B' lb' Y') (hla' : la' ≤ 9223372036854775807) (hlb' : lb' ≤ 9223372036854775807) (hca' : la' ≤ ca') (hcb' : lb' ≤ cb') (hL : Ints w w.heap.size C len L) (hlen : len ≤ 9223372036854775807) :
    Calls Try.prog 45 #[.agg #[.int .i64 n, .int .i64 o, .slice A la ca, .slice B lb cb], .agg #[.int .i64 n', .int .i64 o', .slice A' la' ca', .slice B' lb' cb'], .slice C len cap] w fun e w' => e = .returned (.bool (isHomB n o X Y n' o' X' Y' L)) ∧ Below w.heap.size w w' := by
  obtain ⟨W, hW⟩ : ∃ W, (w.alloc (.cells #[.int .i64 n, .int .i64 o, .slice A la ca, .slice B lb cb] 25)).alloc (.cells #[.int .i64 n', .int .i64 o', .slice A' la' ca', .slice B' lb' cb'] 25) = W := ⟨_, rfl⟩
  have k0 : Blk W w.heap.size 25 #[.int .i64 n, .int .i64 o, .slice A la ca, .slice B lb cb] := by
    subst hW; exact (Blk.new w _ _).alloc _
  have k1 : Blk W (w.heap.size + 1) 25 #[.int .i64 n', .int .i64 o', .slice A' la' ca', .slice B' lb' cb'] := by
    subst hW
    have := Blk.new (w.alloc (.cells #[.int .i64 n, .int .i64 o, .slice A la ca, .slice B lb cb] 25)) 25 #[.int .i64 n', .int .i64 o', .slice A' la' ca', .slice B' lb' cb']
    rw [World.size_alloc] at this
    exact this
  have b0 : Below w.heap.size w W := by
    subst hW; exact ((Below.refl _ _).alloc (Nat.le_refl _) _).alloc (by simp) _
  have IX := Lib.hid (hX.next b0)
  have IY := Lib.hid (hY.next b0)
  have IX' := Lib.hid (hX'.next b0)
  have IY' := Lib.hid (hY'.next b0)
  have IL := Lib.hid (hL.next b0)
  have K0 := Lib.hid k0
  have K1 := Lib.hid k1
  have B0 := Lib.hid b0
  have HW := Lib.hid hW
  obtain ⟨c0, c1, c2, c3⟩ := blk4 k0
  obtain ⟨d0, d1, d2, d3⟩ := blk4 k1
  clear hX hY hX' hY' hL k0 k1 b0 hW
  cases v1 : validB n o X Y
  · have V1 := Lib.hid v1
    have EV := Lib.hid (hom_no1 (n' := n') (o' := o') (X' := X') (Y' := Y') (L := L) v1)
    clear v1
    go_enter Try.func45, Try.ntmps45
    go_upto_region 1 with (fail)
    rw [HW.out]
    go_wp2_with (fail)
    refine (valid_any n o A B la ca lb cb X Y W IX.out IY.out hla hlb hca hcb).mono ?_
    rintro e1 w1 ⟨rfl, hb1⟩
    rw [V1.out]
    go_wp2_with (fail)
    go_ret
    exact ⟨ret_bool EV.out.symm, below_step B0.out hb1⟩
  · have V1 := Lib.hid v1
    cases v2 : validB n' o' X' Y'
    · have V2 := Lib.hid v2
      have EV := Lib.hid (hom_no2 (n := n) (o := o) (X := X) (Y := Y) (L := L) v2)
      clear v1 v2
      go_enter Try.func45, Try.ntmps45
      go_upto_region 1 with (fail)
      rw [HW.out]
      go_wp2_with (fail)
      refine (valid_any n o A B la ca lb cb X Y W IX.out IY.out hla hlb hca hcb).mono ?_
      rintro e1 w1 ⟨rfl, hb1⟩
      rw [V1.out]
      have BB1 := Lib.hid (below_step B0.out hb1)
      have IX'1 := Lib.hid (IX'.out.next hb1)
      have IY'1 := Lib.hid (IY'.out.next hb1)
      have IL1 := Lib.hid (IL.out.next hb1)
      have K01 := Lib.hid (K0.out.next hb1)
      have K11 := Lib.hid (K1.out.next hb1)
      obtain ⟨f0, f1, f2, f3⟩ := blk4 K01.out
      obtain ⟨g0, g1, g2, g3⟩ := blk4 K11.out
      clear hb1 c0 c1 c2 c3 d0 d1 d2 d3
      go_wp2_with (fail)
      refine (valid_any n' o' A' B' la' ca' lb' cb' X' Y' w1 IX'1.out IY'1.out hla' hlb' hca' hcb').mono ?_
      rintro e2 w2 ⟨rfl, hb2⟩
      rw [V2.out]
      go_wp2_with (fail)
      go_ret
      exact ⟨ret_bool EV.out.symm, below_step BB1.out hb2⟩
    · have V2 := Lib.hid v2
      by_cases v3 : (len : Int) = n
      rotate_left
      · have EV := Lib.hid (hom_no3 (o := o) (X := X) (Y := Y) (n' := n') (o' := o') (X' := X') (Y' := Y') (L := L) (n := n) (by rw [IL.out.1]; exact v3))
        have t3 : ((len : Int) == n) = false := by rw [beq_eq_false_iff_ne]; exact v3
        clear v1 v2 v3
        go_enter Try.func45, Try.ntmps45
        go_upto_region 1 with (fail)
        rw [HW.out]
        go_wp2_with (fail)
        refine (valid_any n o A B la ca lb cb X Y W IX.out IY.out hla hlb hca hcb).mono ?_
        rintro e1 w1 ⟨rfl, hb1⟩
        rw [V1.out]
        have BB1 := Lib.hid (below_step B0.out hb1)
        have IX'1 := Lib.hid (IX'.out.next hb1)
        have IY'1 := Lib.hid (IY'.out.next hb1)
        have IL1 := Lib.hid (IL.out.next hb1)
        have K01 := Lib.hid (K0.out.next hb1)
        have K11 := Lib.hid (K1.out.next hb1)
        obtain ⟨f0, f1, f2, f3⟩ := blk4 K01.out
        obtain ⟨g0, g1, g2, g3⟩ := blk4 K11.out
        clear hb1 c0 c1 c2 c3 d0 d1 d2 d3
        go_wp2_with (fail)
        refine (valid_any n' o' A' B' la' ca' lb' cb' X' Y' w1 IX'1.out IY'1.out hla' hlb' hca' hcb').mono ?_
        rintro e2 w2 ⟨rfl, hb2⟩
        rw [V2.out]
        have BB2 := Lib.hid (below_step BB1.out hb2)
        have IL2 := Lib.hid (IL1.out.next hb2)
        have K02 := Lib.hid (K01.out.next hb2)
        have K12 := Lib.hid (K11.out.next hb2)
        clear f0 f1 f2 f3 g0 g1 g2 g3
        obtain ⟨f0, f1, f2, f3⟩ := blk4 K02.out
        obtain ⟨g0, g1, g2, g3⟩ := blk4 K12.out
        clear hb2
        go_wp2_with (fail)
        go_ret
        exact ⟨ret_bool EV.out.symm, BB2.out⟩
      · have t3 : ((len : Int) == n) = true := by rw [beq_iff_eq]; exact v3
        have V3 := Lib.hid v3
        cases v4 : allB n' L
        · have V4 := Lib.hid v4
          have EV := Lib.hid (hom_no4 (n := n) (o := o) (X := X) (Y := Y) (o' := o') (X' := X') (Y' := Y') v4)
          clear v1 v2 v3 v4
          go_enter Try.func45, Try.ntmps45
          go_upto_region 1 with (fail)
          rw [HW.out]
          go_wp2_with (fail)
          refine (valid_any n o A B la ca lb cb X Y W IX.out IY.out hla hlb hca hcb).mono ?_
          rintro e1 w1 ⟨rfl, hb1⟩
          rw [V1.out]
          have BB1 := Lib.hid (below_step B0.out hb1)
          have IX'1 := Lib.hid (IX'.out.next hb1)
          have IY'1 := Lib.hid (IY'.out.next hb1)
          have IL1 := Lib.hid (IL.out.next hb1)
          have K01 := Lib.hid (K0.out.next hb1)
          have K11 := Lib.hid (K1.out.next hb1)
          obtain ⟨f0, f1, f2, f3⟩ := blk4 K01.out
          obtain ⟨g0, g1, g2, g3⟩ := blk4 K11.out
          clear hb1 c0 c1 c2 c3 d0 d1 d2 d3
          go_wp2_with (fail)
          refine (valid_any n' o' A' B' la' ca' lb' cb' X' Y' w1 IX'1.out IY'1.out hla' hlb' hca' hcb').mono ?_
          rintro e2 w2 ⟨rfl, hb2⟩
          rw [V2.out]
          have BB2 := Lib.hid (below_step BB1.out hb2)
          have IL2 := Lib.hid (IL1.out.next hb2)
          have K02 := Lib.hid (K01.out.next hb2)
          have K12 := Lib.hid (K11.out.next hb2)
          clear f0 f1 f2 f3 g0 g1 g2 g3
          obtain ⟨f0, f1, f2, f3⟩ := blk4 K02.out
          obtain ⟨g0, g1, g2, g3⟩ := blk4 K12.out
          clear hb2
          go_wp2_with (fail)
          refine (hasAll_any n' o' A' B' C la' ca' lb' cb' len cap L w2 IL2.out hlen).mono ?_
          rintro e3 w3 ⟨rfl, hb3⟩
          rw [V4.out]
          go_wp2_with (fail)
          go_ret
          exact ⟨ret_bool EV.out.symm, below_step BB2.out hb3⟩
        · have V4 := Lib.hid v4
          have EV := Lib.hid (hom_yes v1 v2 (by rw [IL.out.1]; exact v3) v4)
          clear v1 v2 v3 v4
          go_enter Try.func45, Try.ntmps45
          go_upto_region 1 with (fail)
          rw [HW.out]
          go_wp2_with (fail)
          refine (valid_any n o A B la ca lb cb X Y W IX.out IY.out hla hlb hca hcb).mono ?_
          rintro e1 w1 ⟨rfl, hb1⟩
          have S1 := Lib.hid hb1
          rw [V1.out]
          have BB1 := Lib.hid (below_step B0.out hb1)
          have IX'1 := Lib.hid (IX'.out.next hb1)
          have IY'1 := Lib.hid (IY'.out.next hb1)
          have IL1 := Lib.hid (IL.out.next hb1)
          have K01 := Lib.hid (K0.out.next hb1)
          have K11 := Lib.hid (K1.out.next hb1)
          obtain ⟨f0, f1, f2, f3⟩ := blk4 K01.out
          obtain ⟨g0, g1, g2, g3⟩ := blk4 K11.out
          clear hb1 c0 c1 c2 c3 d0 d1 d2 d3
          go_wp2_with (fail)
          refine (valid_any n' o' A' B' la' ca' lb' cb' X' Y' w1 IX'1.out IY'1.out hla' hlb' hca' hcb').mono ?_
          rintro e2 w2 ⟨rfl, hb2⟩
          have S2 := Lib.hid hb2
          rw [V2.out]
          have BB2 := Lib.hid (below_step BB1.out hb2)
          have IL2 := Lib.hid (IL1.out.next hb2)
          have K02 := Lib.hid (K01.out.next hb2)
          have K12 := Lib.hid (K11.out.next hb2)
          clear f0 f1 f2 f3 g0 g1 g2 g3
          obtain ⟨f0, f1, f2, f3⟩ := blk4 K02.out
          obtain ⟨g0, g1, g2, g3⟩ := blk4 K12.out
          clear hb2
          go_wp2_with (fail)
          refine (hasAll_any n' o' A' B' C la' ca' lb' cb' len cap L w2 IL2.out hlen).mono ?_
          rintro e3 w3 ⟨rfl, hb3⟩
          rw [V4.out]
          have BB3 := Lib.hid (below_step BB2.out hb3)
          have K03 := Lib.hid (K02.out.next hb3)
          have K13 := Lib.hid (K12.out.next hb3)
          have IL3 := Lib.hid (IL2.out.next hb3)
          clear f0 f1 f2 f3 g0 g1 g2 g3
          obtain ⟨f0, f1, f2, f3⟩ := blk4 K03.out
          obtain ⟨g0, g1, g2, g3⟩ := blk4 K13.out
          have hb1c := Lib.hid (S1.out.trans ((S2.out.mono S1.out.size).trans (hb3.mono (Nat.le_trans S1.out.size S2.out.size))))
          obtain ⟨m, e, b1, o1, b2, o2, rfl, rfl, rfl, rfl, hr, _, _, _, _, _⟩ := valid_data V1.out (IX.out.next (hb1c.out)) (IY.out.next (hb1c.out)) hca hcb
          obtain ⟨m', e', b1', o1', b2', o2', rfl, rfl, rfl, rfl, hr', _, _, _, _, _⟩ := valid_data V2.out (IX'.out.next hb1c.out) (IY'.out.next hb1c.out) hca' hcb'
          obtain rfl : len = m := by have := V3.out; omega
          obtain ⟨b, off, rfl, hlst⟩ := lst_of IL3.out V4.out hr.hm
          go_wp2_with (fail)
          refine (respects_any b off cap (tabOf L) len e b1 o1 la ca b2 o2 lb cb _ _ w3 hr m' e' b1' o1' la' ca' b2' o2' lb' cb' _ _ hr' hlst).mono ?_
          rintro e4 w4 ⟨rfl, hb4⟩
          go_wp2_with (fail)
          go_ret
          exact ⟨ret_bool (by rw [EV.out]; rfl), below_step BB3.out hb4⟩

end Go.Proofs.Ytcbodedpahdobaa


/- IsHom of the reading side. -/
namespace Go.Proofs.Ytcbodedpahdobaa
open Go.RowKit
set_option maxRecDepth 100000

def HomK (m m' : Nat) (S P S' P' F : Nat → Nat) (j : Nat) : Prop := F (S j) = S' (F (j / m) * m' + F (j % m)) ∧ F (P j) = P' (F (j / m) * m' + F (j % m))
def HomKTo (m m' : Nat) (S P S' P' F : Nat → Nat) (k : Nat) : Prop := ∀ j, j < k → HomK m m' S P S' P' F j
theorem homK_iff {m m' : Nat} {S P S' P' F : Nat → Nat} : HomTo m m' S P S' P' F m ↔ HomKTo m m' S P S' P' F (m * m) := by
  constructor
  · intro h j hj
    obtain ⟨h1, h2⟩ := parts2 hj
    have := h _ h1 _ h2
    unfold HomAt at this
    rwa [Nat.mul_comm, Nat.div_add_mod] at this
  · intro h a ha b hb
    have := h (a * m + b) (idx_lt ha hb)
    unfold HomK at this
    rwa [show (a * m + b) / m = a by rw [Nat.mul_comm, Nat.mul_add_div (by omega), Nat.div_eq_of_lt hb, Nat.add_zero], show (a * m + b) % m = b by rw [Nat.mul_comm, Nat.mul_add_mod, Nat.mod_eq_of_lt hb]] at this
theorem calls_ext0 {P : Program} {f : FuncId} {args : Array Value} {w : World} {u : Ext w} {v : Value} (h : Calls P f args (ext w u) fun e w' => e = .returned v ∧ ext w u = w') : Calls P f args (ext w u) fun e w'' => e = .returned v ∧ ∃ u' : Ext w, w'' = ext w u' :=
  h.mono fun _ _ ⟨he, hb⟩ => ⟨he, u, hb.symm⟩
theorem val_bounds {n o : Int} {X Y : List Int} (h : validB n o X Y = true) : 1 ≤ n ∧ n ≤ 16 := by
  unfold validB at h
  rw [Bool.and_eq_true] at h
  obtain ⟨m, e, rfl, rfl, hm, hm', _⟩ := fits_data h.1
  omega

set_option maxHeartbeats 16000000 in
theorem sisHom_any (n o : Int) (A B : Option Addr) (la ca lb cb : Nat) (X Y : List Int) (n' o' : Int) (A' B' : Option Addr) (la' ca' lb' cb' : Nat) (X' Y' : List Int) (C : Option Addr) (len cap : Nat) (L : List Int) (w : World) (hX : Ints w w.heap.size A la X) (hY : Ints w w.heap.size B lb Y) (hla : la ≤ 9223372036854775807) (hlb : lb ≤ 9223372036854775807) (hca : la ≤ ca) (hcb : lb ≤ cb) (hX' : Ints w w.heap.size A' la' X') (hY' : Ints w w.heap.size B' lb' Y') (hla' : la' ≤ 9223372036854775807) (hlb' : lb' ≤ 9223372036854775807) (hca' : la' ≤ ca') (hcb' : lb' ≤ cb') (hL : Ints w w.heap.size C len L) (hlen : len ≤ 9223372036854775807) :
    Calls Try.prog 44 #[.agg #[.int .i64 n, .int .i64 o, .slice A la ca, .slice B lb cb], .agg #[.int .i64 n', .int .i64 o', .slice A' la' ca', .slice B' lb' cb'], .slice C len cap] w fun e w' => e = .returned (.bool (isHomB n o X Y n' o' X' Y' L)) ∧ Below w.heap.size w w' := by
  obtain ⟨W, hW⟩ : ∃ W, (w.alloc (.cells #[.int .i64 n, .int .i64 o, .slice A la ca, .slice B lb cb] 25)).alloc (.cells #[.int .i64 n', .int .i64 o', .slice A' la' ca', .slice B' lb' cb'] 25) = W := ⟨_, rfl⟩
  have k0 : Blk W w.heap.size 25 #[.int .i64 n, .int .i64 o, .slice A la ca, .slice B lb cb] := by
    subst hW; exact (Blk.new w _ _).alloc _
  have k1 : Blk W (w.heap.size + 1) 25 #[.int .i64 n', .int .i64 o', .slice A' la' ca', .slice B' lb' cb'] := by
    subst hW
    have := Blk.new (w.alloc (.cells #[.int .i64 n, .int .i64 o, .slice A la ca, .slice B lb cb] 25)) 25 #[.int .i64 n', .int .i64 o', .slice A' la' ca', .slice B' lb' cb']
    rw [World.size_alloc] at this
    exact this
  have b0 : Below w.heap.size w W := by
    subst hW; exact ((Below.refl _ _).alloc (Nat.le_refl _) _).alloc (by simp) _
  have IX := Lib.hid (hX.next b0)
  have IY := Lib.hid (hY.next b0)
  have IX' := Lib.hid (hX'.next b0)
  have IY' := Lib.hid (hY'.next b0)
  have IL := Lib.hid (hL.next b0)
  have K0 := Lib.hid k0
  have K1 := Lib.hid k1
  have B0 := Lib.hid b0
  have HW := Lib.hid hW
  obtain ⟨c0, c1, c2, c3⟩ := blk4 k0
  obtain ⟨d0, d1, d2, d3⟩ := blk4 k1
  clear hX hY hX' hY' hL k0 k1 b0 hW
  cases v1 : validB n o X Y
  · have V1 := Lib.hid v1
    have EV := Lib.hid (hom_no1 (n' := n') (o' := o') (X' := X') (Y' := Y') (L := L) v1)
    clear v1
    go_enter Try.func44, Try.ntmps44
    go_upto_region 1 with (fail)
    rw [HW.out]
    have IXw : ∀ u, Ints (ext W u) (ext W u).heap.size A la X := fun u => IX.out.next (ext_below _ u)
    have IYw : ∀ u, Ints (ext W u) (ext W u).heap.size B lb Y := fun u => IY.out.next (ext_below _ u)
    have IX'w : ∀ u, Ints (ext W u) (ext W u).heap.size A' la' X' := fun u => IX'.out.next (ext_below _ u)
    have IY'w : ∀ u, Ints (ext W u) (ext W u).heap.size B' lb' Y' := fun u => IY'.out.next (ext_below _ u)
    have ILw : ∀ u, Ints (ext W u) (ext W u).heap.size C len L := fun u => IL.out.next (ext_below _ u)
    refine wp_region_ext (by kernel_rfl) (by kernel_rfl) ?_
    repeat (go_big_quiet_step (((first
      | (go_at_call 66; ((with_reducible refine calls_ext ((specValid_any n o A B la ca lb cb X Y _ (IXw _) (IYw _) hla hlb hca hcb).mono fun e w h => by rw [V1.out] at h; exact h))))))))
    refine wpQuiet_nil ?_
    intro w1 hb1
    have B1 := Lib.hid (below_step B0.out hb1)
    clear hb1
    go_wp2
    go_ret
    exact ⟨ret_bool EV.out.symm, B1.out⟩
  · have V1 := Lib.hid v1
    cases v2 : validB n' o' X' Y'
    · have V2 := Lib.hid v2
      have EV := Lib.hid (hom_no2 (n := n) (o := o) (X := X) (Y := Y) (L := L) v2)
      clear v1 v2
      go_enter Try.func44, Try.ntmps44
      go_upto_region 1 with (fail)
      rw [HW.out]
      have IXw : ∀ u, Ints (ext W u) (ext W u).heap.size A la X := fun u => IX.out.next (ext_below _ u)
      have IYw : ∀ u, Ints (ext W u) (ext W u).heap.size B lb Y := fun u => IY.out.next (ext_below _ u)
      have IX'w : ∀ u, Ints (ext W u) (ext W u).heap.size A' la' X' := fun u => IX'.out.next (ext_below _ u)
      have IY'w : ∀ u, Ints (ext W u) (ext W u).heap.size B' lb' Y' := fun u => IY'.out.next (ext_below _ u)
      have ILw : ∀ u, Ints (ext W u) (ext W u).heap.size C len L := fun u => IL.out.next (ext_below _ u)
      refine wp_region_ext (by kernel_rfl) (by kernel_rfl) ?_
      repeat (go_big_quiet_step (((first
        | (go_at_call 66; ((with_reducible refine calls_ext ((specValid_any n o A B la ca lb cb X Y _ (IXw _) (IYw _) hla hlb hca hcb).mono fun e w h => by rw [V1.out] at h; exact h))))
        | (go_at_call 66; ((with_reducible refine calls_ext ((specValid_any n' o' A' B' la' ca' lb' cb' X' Y' _ (IX'w _) (IY'w _) hla' hlb' hca' hcb').mono fun e w h => by rw [V2.out] at h; exact h))))))))
      refine wpQuiet_nil ?_
      intro w1 hb1
      have B1 := Lib.hid (below_step B0.out hb1)
      clear hb1
      go_wp2
      go_ret
      exact ⟨ret_bool EV.out.symm, B1.out⟩
    · have V2 := Lib.hid v2
      by_cases v3 : (len : Int) = n
      rotate_left
      · have EV := Lib.hid (hom_no3 (o := o) (X := X) (Y := Y) (n' := n') (o' := o') (X' := X') (Y' := Y') (L := L) (n := n) (by rw [IL.out.1]; exact v3))
        have t3 : ((len : Int) != n) = true := by rw [bne_iff_ne]; exact v3
        clear v1 v2 v3
        go_enter Try.func44, Try.ntmps44
        go_upto_region 1 with (fail)
        rw [HW.out]
        have IXw : ∀ u, Ints (ext W u) (ext W u).heap.size A la X := fun u => IX.out.next (ext_below _ u)
        have IYw : ∀ u, Ints (ext W u) (ext W u).heap.size B lb Y := fun u => IY.out.next (ext_below _ u)
        have IX'w : ∀ u, Ints (ext W u) (ext W u).heap.size A' la' X' := fun u => IX'.out.next (ext_below _ u)
        have IY'w : ∀ u, Ints (ext W u) (ext W u).heap.size B' lb' Y' := fun u => IY'.out.next (ext_below _ u)
        have ILw : ∀ u, Ints (ext W u) (ext W u).heap.size C len L := fun u => IL.out.next (ext_below _ u)
        refine wp_region_ext (by kernel_rfl) (by kernel_rfl) ?_
        repeat (go_big_quiet_step (((first
          | (go_at_call 66; ((with_reducible refine calls_ext ((specValid_any n o A B la ca lb cb X Y _ (IXw _) (IYw _) hla hlb hca hcb).mono fun e w h => by rw [V1.out] at h; exact h))))
          | (go_at_call 66; ((with_reducible refine calls_ext ((specValid_any n' o' A' B' la' ca' lb' cb' X' Y' _ (IX'w _) (IY'w _) hla' hlb' hca' hcb').mono fun e w h => by rw [V2.out] at h; exact h))))))))
        refine wpQuiet_nil ?_
        intro w1 hb1
        have B1 := Lib.hid (below_step B0.out hb1)
        clear hb1
        go_wp2
        go_ret
        exact ⟨ret_bool EV.out.symm, B1.out⟩
      · have t3 : ((len : Int) != n) = false := by rw [bne_eq_false_iff_eq]; exact v3
        have V3 := Lib.hid v3
        obtain ⟨vb1, vb2⟩ := val_bounds v2
        have hwr : wrap64 (n' - 1) = n' - 1 := IntWalk.wrap64_in _ (by omega)
        cases v4 : allB n' L
        · have V4 := Lib.hid v4
          have EV := Lib.hid (hom_no4 (n := n) (o := o) (X := X) (Y := Y) (o' := o') (X' := X') (Y' := Y') v4)
          clear v1 v2 v3 v4
          go_enter Try.func44, Try.ntmps44
          go_upto_region 1 with (fail)
          rw [HW.out]
          have IXw : ∀ u, Ints (ext W u) (ext W u).heap.size A la X := fun u => IX.out.next (ext_below _ u)
          have IYw : ∀ u, Ints (ext W u) (ext W u).heap.size B lb Y := fun u => IY.out.next (ext_below _ u)
          have IX'w : ∀ u, Ints (ext W u) (ext W u).heap.size A' la' X' := fun u => IX'.out.next (ext_below _ u)
          have IY'w : ∀ u, Ints (ext W u) (ext W u).heap.size B' lb' Y' := fun u => IY'.out.next (ext_below _ u)
          have ILw : ∀ u, Ints (ext W u) (ext W u).heap.size C len L := fun u => IL.out.next (ext_below _ u)
          refine wp_region_ext (by kernel_rfl) (by kernel_rfl) ?_
          repeat (go_big_quiet_step (((first
            | (go_at_call 66; ((with_reducible refine calls_ext ((specValid_any n o A B la ca lb cb X Y _ (IXw _) (IYw _) hla hlb hca hcb).mono fun e w h => by rw [V1.out] at h; exact h))))
            | (go_at_call 66; ((with_reducible refine calls_ext ((specValid_any n' o' A' B' la' ca' lb' cb' X' Y' _ (IX'w _) (IY'w _) hla' hlb' hca' hcb').mono fun e w h => by rw [V2.out] at h; exact h))))
            | (go_at_call 65; ((with_reducible refine calls_ext0 ((l1Elements_any n' (n' - 1) C len cap L _ _ hwr (ILw _) hlen).mono fun e w h => by rw [elB_allB, V4.out] at h; exact h))))))))
          refine wpQuiet_nil ?_
          intro w1 hb1
          have B1 := Lib.hid (below_step B0.out hb1)
          clear hb1
          go_wp2
          go_ret
          exact ⟨ret_bool EV.out.symm, B1.out⟩
        · have V4 := Lib.hid v4
          have EV0 := hom_yes v1 v2 (by rw [IL.out.1]; exact v3) v4
          obtain ⟨m, e, b1, o1, b2, o2, rfl, rfl, rfl, rfl, hr, _, _, _, _, _⟩ := valid_data v1 IX.out IY.out hca hcb
          obtain ⟨m', e', b1', o1', b2', o2', rfl, rfl, rfl, rfl, hr', _, _, _, _, _⟩ := valid_data v2 IX'.out IY'.out hca' hcb'
          obtain rfl : len = m := by omega
          obtain ⟨b, off, rfl, hlst⟩ := lst_of IL.out v4 hr.hm
          simp only [Int.toNat_natCast] at EV0
          have EV := Lib.hid EV0
          have HR := Lib.hid hr
          have HR' := Lib.hid hr'
          have HL := Lib.hid hlst
          have he := hr.he
          have hm := hr.hm
          have hm' := hr.hm'
          have hf := (hlst.2 e he).1
          obtain ⟨F, hF⟩ : ∃ F, tabOf L = F := ⟨_, rfl⟩
          rw [hF] at HL EV hf
          have HF := Lib.hid hF
          clear v1 v2 v3 v4 EV0 hr hr' hlst hF
          by_cases h1 : F e = e'
          rotate_left
          · have t0 := bne_yes h1
            have HE := Lib.hid h1
            clear h1
            go_enter Try.func44, Try.ntmps44
            go_upto_region 1 with (fail)
            rw [HW.out]
            have IXw : ∀ u, Ints (ext W u) (ext W u).heap.size (some ⟨b1, o1, none⟩) la X := fun u => IX.out.next (ext_below _ u)
            have IYw : ∀ u, Ints (ext W u) (ext W u).heap.size (some ⟨b2, o2, none⟩) lb Y := fun u => IY.out.next (ext_below _ u)
            have IX'w : ∀ u, Ints (ext W u) (ext W u).heap.size (some ⟨b1', o1', none⟩) la' X' := fun u => IX'.out.next (ext_below _ u)
            have IY'w : ∀ u, Ints (ext W u) (ext W u).heap.size (some ⟨b2', o2', none⟩) lb' Y' := fun u => IY'.out.next (ext_below _ u)
            have ILw : ∀ u, Ints (ext W u) (ext W u).heap.size (some ⟨b, off, none⟩) len L := fun u => IL.out.next (ext_below _ u)
            refine wp_region_ext (by kernel_rfl) (by kernel_rfl) ?_
            repeat (go_big_quiet_step (((first
              | (go_at_call 66; ((with_reducible refine calls_ext ((specValid_any len e (some ⟨b1, o1, none⟩) (some ⟨b2, o2, none⟩) la ca lb cb X Y _ (IXw _) (IYw _) hla hlb hca hcb).mono fun e w h => by rw [V1.out] at h; exact h))))
              | (go_at_call 66; ((with_reducible refine calls_ext ((specValid_any m' e' (some ⟨b1', o1', none⟩) (some ⟨b2', o2', none⟩) la' ca' lb' cb' X' Y' _ (IX'w _) (IY'w _) hla' hlb' hca' hcb').mono fun e w h => by rw [V2.out] at h; exact h))))
              | (go_at_call 65; ((with_reducible refine calls_ext0 ((l1Elements_any m' (m' - 1) (some ⟨b, off, none⟩) len cap L _ _ hwr (ILw _) hlen).mono fun e w h => by rw [elB_allB, V4.out] at h; exact h))))))))
            refine wpQuiet_nil ?_
            intro w1 hb1
            have B1 := Lib.hid (below_step B0.out hb1)
            clear hb1
            go_wp2
            go_ret
            exact ⟨ret_bool (by rw [EV.out]; exact (propB_false fun g => HE.out g.1).symm), B1.out⟩
          · have t0 := bne_no h1
            have HE := Lib.hid h1
            have q1 : F e ≤ e' := by omega
            have q2 : e' ≤ F e := by omega
            clear h1
            go_enter Try.func44, Try.ntmps44
            go_upto_region 1 with (fail)
            rw [HW.out]
            have IXw : ∀ u, Ints (ext W u) (ext W u).heap.size (some ⟨b1, o1, none⟩) la X := fun u => IX.out.next (ext_below _ u)
            have IYw : ∀ u, Ints (ext W u) (ext W u).heap.size (some ⟨b2, o2, none⟩) lb Y := fun u => IY.out.next (ext_below _ u)
            have IX'w : ∀ u, Ints (ext W u) (ext W u).heap.size (some ⟨b1', o1', none⟩) la' X' := fun u => IX'.out.next (ext_below _ u)
            have IY'w : ∀ u, Ints (ext W u) (ext W u).heap.size (some ⟨b2', o2', none⟩) lb' Y' := fun u => IY'.out.next (ext_below _ u)
            have ILw : ∀ u, Ints (ext W u) (ext W u).heap.size (some ⟨b, off, none⟩) len L := fun u => IL.out.next (ext_below _ u)
            refine wp_region_ext (by kernel_rfl) (by kernel_rfl) ?_
            repeat (go_big_quiet_step (((first
              | (go_at_call 66; ((with_reducible refine calls_ext ((specValid_any len e (some ⟨b1, o1, none⟩) (some ⟨b2, o2, none⟩) la ca lb cb X Y _ (IXw _) (IYw _) hla hlb hca hcb).mono fun e w h => by rw [V1.out] at h; exact h))))
              | (go_at_call 66; ((with_reducible refine calls_ext ((specValid_any m' e' (some ⟨b1', o1', none⟩) (some ⟨b2', o2', none⟩) la' ca' lb' cb' X' Y' _ (IX'w _) (IY'w _) hla' hlb' hca' hcb').mono fun e w h => by rw [V2.out] at h; exact h))))
              | (go_at_call 65; ((with_reducible refine calls_ext0 ((l1Elements_any m' (m' - 1) (some ⟨b, off, none⟩) len cap L _ _ hwr (ILw _) hlen).mono fun e w h => by rw [elB_allB, V4.out] at h; exact h))))))))
            refine wpQuiet_nil ?_
            intro w1 hb1
            have B1 := Lib.hid (below_step B0.out hb1)
            have K01 := Lib.hid (K0.out.next hb1)
            have K11 := Lib.hid (K1.out.next hb1)
            have HR1 := Lib.hid (HR.out.next hb1)
            have HR1' := Lib.hid (HR'.out.next hb1)
            have HL1 := Lib.hid (HL.out.next hb1)
            clear hb1 c0 c1 c2 c3 d0 d1 d2 d3 hf IXw IYw IX'w IY'w ILw
            obtain ⟨c0, c1, c2, c3⟩ := blk4 K01.out
            obtain ⟨s1, s2, s3, s4⟩ := sqI hm'
            have S3 := Lib.hid s3
            clear s3
            have hla2 := HR.out.hla
            have hlb2 := HR.out.hlb
            go_wp2
            go_loopg [47] (len * len) (fun g vi wr => ∃ k : Nat, k ≤ len * len ∧ len * len ≤ k + g ∧ vi = .int .i64 k ∧ HomKTo len m' (tabOf X) (tabOf Y) (tabOf X') (tabOf Y') F k ∧ Below w1.heap.size w1 wr)
            case atStart => exact ⟨0, Nat.zero_le _, by omega, rfl, fun j hj => absurd hj (by omega), Below.refl _ _⟩
            case round =>
              obtain ⟨k, hk, hg, rfl, hup, hb⟩ := hrel
              have HU := Lib.hid hup
              have BW := Lib.hid (below_step B1.out hb)
              have BW1 := Lib.hid hb
              have KW := Lib.hid (K01.out.next hb)
              have KW' := Lib.hid (K11.out.next hb)
              have RW := Lib.hid (HR1.out.next hb)
              have RW' := Lib.hid (HR1'.out.next hb)
              have LW := Lib.hid (HL1.out.next hb)
              clear c0 c1 c2 c3 hb hup
              obtain ⟨c0, c1, c2, c3⟩ := blk4 KW.out
              by_cases hlt : k < len * len
              · have i1 : (k : Int) < (len : Int) * len := by rw [S3.out]; omega
                obtain ⟨p1, p2⟩ := parts2 hlt
                obtain ⟨e1, e2⟩ : (k : Int) / len = ((k / len : Nat) : Int) ∧ (k : Int) % len = ((k % len : Nat) : Int) := ⟨by simp, by simp⟩
                have n1 : 0 ≤ (k : Int) / len := by rw [e1]; exact Int.natCast_nonneg _
                have n2 : (k : Int) / len ≤ 256 := by rw [e1]; exact (Int.ofNat_le (n := 256)).2 (by omega)
                have n3 : ¬ len = 0 := by omega
                have E1 := Lib.hid e1
                have E2 := Lib.hid e2
                clear e1 e2
                go_wp2
                go_quiet (fail)
                rw [E1.out, E2.out]
                obtain ⟨a, eA⟩ : ∃ A : Nat, k / len = A := ⟨_, rfl⟩
                obtain ⟨c, eB⟩ : ∃ B : Nat, k % len = B := ⟨_, rfl⟩
                have HK := Lib.hid (show HomK len m' (tabOf X) (tabOf Y) (tabOf X') (tabOf Y') F k ↔ F (tabOf X k) = tabOf X' (F a * m' + F c) ∧ F (tabOf Y k) = tabOf Y' (F a * m' + F c) by unfold HomK; rw [eA, eB])
                rw [eA] at p1 ⊢
                rw [eB] at p2 ⊢
                clear eA eB n1 n2
                have BD0 : Below wr.heap.size wr (wr.drewN nq) := below_drewN (Below.refl _ _) nq
                obtain ⟨V, hV⟩ : ∃ V, wr.drewN nq = V := ⟨_, rfl⟩
                rw [hV] at BD0 ⊢
                clear hV
                have BW2 := Lib.hid (below_step BW.out BD0)
                have BW3 := Lib.hid (below_step BW1.out BD0)
                have RV := Lib.hid (RW.out.next BD0)
                have RV' := Lib.hid (RW'.out.next BD0)
                have LV := Lib.hid (LW.out.next BD0)
                clear c0 c1 c2 c3
                obtain ⟨c0, c1, c2, c3⟩ := blk4 (KW.out.next BD0)
                obtain ⟨d0, d1, d2, d3⟩ := blk4 (KW'.out.next BD0)
                clear BD0
                obtain ⟨tS, uS⟩ := RV.out.ts.2 k hlt
                obtain ⟨tP, uP⟩ := RV.out.tp.2 k hlt
                obtain ⟨f1, l1⟩ := LV.out.2 a p1
                obtain ⟨f2, l2⟩ := LV.out.2 c p2
                obtain ⟨f3, l3⟩ := LV.out.2 _ uS
                obtain ⟨f4, l4⟩ := LV.out.2 _ uP
                have j1 : (k : Int) < (la : Int) := by omega
                have j2 : (k : Int) < (lb : Int) := by omega
                obtain ⟨x, hx⟩ : ∃ x, tabOf X k = x := ⟨_, rfl⟩
                obtain ⟨y, hy⟩ : ∃ y, tabOf Y k = y := ⟨_, rfl⟩
                rw [hx] at tS uS f3 l3 HK
                rw [hy] at tP uP f4 l4 HK
                clear hx hy
                by_cases hS : F x = tabOf X' (F a * m' + F c)
                · have t1 := bne_no hS
                  have HS := Lib.hid hS
                  have u1 : F x ≤ tabOf X' (F a * m' + F c) := by omega
                  have u2 : tabOf X' (F a * m' + F c) ≤ F x := by omega
                  by_cases hP : F y = tabOf Y' (F a * m' + F c)
                  · have t2 := bne_no hP
                    have HP := Lib.hid hP
                    have u3 : F y ≤ tabOf Y' (F a * m' + F c) := by omega
                    have u4 : tabOf Y' (F a * m' + F c) ≤ F y := by omega
                    clear hS hP
                    go_wp2
                    refine wp_region_ext (by kernel_rfl) (by kernel_rfl) ?_
                    repeat (go_big_quiet_step (((first
                      | (go_at_call 97; ((with_reducible refine calls_ext (l1Add_any (F a) (F c) m' e' b1' o1' la' ca' b2' o2' lb' cb' (tabOf X') (tabOf Y') _ (RV'.out.ext _) l1 l2))))
                      | (go_at_call 92; ((with_reducible refine calls_ext (l1Mul_any (F a) (F c) m' e' b1' o1' la' ca' b2' o2' lb' cb' (tabOf X') (tabOf Y') _ (RV'.out.ext _) l1 l2))))))))
                    refine wpQuiet_nil ?_
                    intro w3 hb3
                    have B3 := Lib.hid (below_step BW3.out hb3)
                    clear hb3
                    go_wp2
                    go_roundg (len * len - (k + 1))
                    case measure => omega
                    case rel => exact ⟨k + 1, by omega, by omega, by go_num, forall_succ HU.out (HK.out.2 ⟨HS.out, HP.out⟩), B3.out⟩
                  · have t2 := bne_yes hP
                    have HP := Lib.hid hP
                    clear hS hP
                    go_wp2
                    refine wp_region_ext (by kernel_rfl) (by kernel_rfl) ?_
                    repeat (go_big_quiet_step (((first
                      | (go_at_call 97; ((with_reducible refine calls_ext (l1Add_any (F a) (F c) m' e' b1' o1' la' ca' b2' o2' lb' cb' (tabOf X') (tabOf Y') _ (RV'.out.ext _) l1 l2))))
                      | (go_at_call 92; ((with_reducible refine calls_ext (l1Mul_any (F a) (F c) m' e' b1' o1' la' ca' b2' o2' lb' cb' (tabOf X') (tabOf Y') _ (RV'.out.ext _) l1 l2))))))))
                    refine wpQuiet_nil ?_
                    intro w3 hb3
                    have B3 := Lib.hid (below_step BW2.out hb3)
                    clear hb3
                    go_wp2
                    go_ret
                    exact ⟨ret_bool (by rw [EV.out]; exact (propB_false fun g => HP.out (HK.out.1 (homK_iff.1 g.2 k hlt)).2).symm), B3.out⟩
                · have t1 := bne_yes hS
                  have HS := Lib.hid hS
                  clear hS
                  go_wp2
                  refine wp_region_ext (by kernel_rfl) (by kernel_rfl) ?_
                  repeat (go_big_quiet_step (((first
                    | (go_at_call 97; ((with_reducible refine calls_ext (l1Add_any (F a) (F c) m' e' b1' o1' la' ca' b2' o2' lb' cb' (tabOf X') (tabOf Y') _ (RV'.out.ext _) l1 l2))))
                    | (go_at_call 92; ((with_reducible refine calls_ext (l1Mul_any (F a) (F c) m' e' b1' o1' la' ca' b2' o2' lb' cb' (tabOf X') (tabOf Y') _ (RV'.out.ext _) l1 l2))))))))
                  refine wpQuiet_nil ?_
                  intro w3 hb3
                  have B3 := Lib.hid (below_step BW2.out hb3)
                  clear hb3
                  go_wp2
                  go_ret
                  exact ⟨ret_bool (by rw [EV.out]; exact (propB_false fun g => HS.out (HK.out.1 (homK_iff.1 g.2 k hlt)).1).symm), B3.out⟩
              · have i1 : ¬ (k : Int) < (len : Int) * len := by rw [S3.out]; omega
                have HZ := Lib.hid (show HomKTo len m' (tabOf X) (tabOf Y) (tabOf X') (tabOf Y') F (len * len) from fun j hj => HU.out j (by omega))
                go_wp2
                go_ret
                exact ⟨ret_bool (by rw [EV.out]; exact (propB_true ⟨HE.out, homK_iff.2 HZ.out⟩).symm), BW.out⟩

end Go.Proofs.Ytcbodedpahdobaa


/- KernelOf of both sides. -/
namespace Go.Proofs.Ytcbodedpahdobaa
open Go.RowKit Go.Shelf
set_option maxRecDepth 100000
attribute [local go_sem] Oper.semAt_some

def kerB (F : Nat → Nat) (i : Nat) : Bool := decide (F i = 0)
noncomputable def kerL (n o : Int) (X Y : List Int) (n' o' : Int) (X' Y' L : List Int) : List Int := if isHomB n o X Y n' o' X' Y' L = true then lstP n.toNat (kerB (tabOf L)) else []
theorem ker_yes {n o n' o' : Int} {X Y X' Y' L : List Int} (h : isHomB n o X Y n' o' X' Y' L = true) : kerL n o X Y n' o' X' Y' L = lstP n.toNat (kerB (tabOf L)) := if_pos h
theorem ker_no {n o n' o' : Int} {X Y X' Y' L : List Int} (h : isHomB n o X Y n' o' X' Y' L = false) : kerL n o X Y n' o' X' Y' L = [] := if_neg (by rw [h]; simp)

set_option maxHeartbeats 1000000 in
theorem ker1_any (g a b off m m' cap : Nat) (F : Nat → Nat) (w : World) (hg : Blk w g 23 #[.slice (some ⟨b, off, none⟩) m cap]) (hL : Lst w w.heap.size b off m m' F) (ha : a < m) (hm' : m ≤ 16) :
    Calls Try.prog 99 (#[.int .i64 a] ++ #[.pointer (some ⟨g, 0, none⟩)]) w fun e' w' => e' = .returned (.bool (kerB F a)) ∧ Below w.heap.size w w' := by
  show Calls Try.prog 99 #[.int .i64 a, .pointer (some ⟨g, 0, none⟩)] w _
  have c0 := hg.cell 0
  simp at c0
  have f1 := (hL.2 a ha).1
  by_cases h0 : F a = 0
  · have t0 : (((F a : Nat) : Int) == 0) = true := by rw [beq_iff_eq]; omega
    have hk : kerB F a = true := decide_eq_true h0
    rw [hk]
    clear h0 hk
    go_enter Try.func99, Try.ntmps99
    go_wp2
    go_ret
    exact ⟨rfl, Below.refl _ _⟩
  · have t0 : (((F a : Nat) : Int) == 0) = false := by rw [beq_eq_false_iff_ne]; omega
    have hk : kerB F a = false := decide_eq_false h0
    rw [hk]
    clear h0 hk
    go_enter Try.func99, Try.ntmps99
    go_wp2
    go_ret
    exact ⟨rfl, Below.refl _ _⟩

set_option maxHeartbeats 8000000 in
theorem ker_any (n o : Int) (A B : Option Addr) (la ca lb cb : Nat) (X Y : List Int) (n' o' : Int) (A' B' : Option Addr) (la' ca' lb' cb' : Nat) (X' Y' : List Int) (C : Option Addr) (len cap : Nat) (L : List Int) (w : World) (hX : Ints w w.heap.size A la X) (hY : Ints w w.heap.size B lb Y) (hla : la ≤ 9223372036854775807) (hlb : lb ≤ 9223372036854775807) (hca : la ≤ ca) (hcb : lb ≤ cb) (hX' : Ints w w.heap.size A' la' X') (hY' : Ints w w.heap.size B' lb' Y') (hla' : la' ≤ 9223372036854775807) (hlb' : lb' ≤ 9223372036854775807) (hca' : la' ≤ ca') (hcb' : lb' ≤ cb') (hL : Ints w w.heap.size C len L) (hlen : len ≤ 9223372036854775807) :
    Calls Try.prog 47 #[.agg #[.int .i64 n, .int .i64 o, .slice A la ca, .slice B lb cb], .agg #[.int .i64 n', .int .i64 o', .slice A' la' ca', .slice B' lb' cb'], .slice C len cap] w fun e w' => ∃ v, e = .returned (.tuple #[v, .bool (isHomB n o X Y n' o' X' Y' L)]) ∧ SliceOut w.heap.size w' v (kerL n o X Y n' o' X' Y' L) ∧ Below w.heap.size w w' := by
  obtain ⟨W, hW⟩ : ∃ W, ((w.alloc (.cells #[.int .i64 n, .int .i64 o, .slice A la ca, .slice B lb cb] 25)).alloc (.cells #[.int .i64 n', .int .i64 o', .slice A' la' ca', .slice B' lb' cb'] 25)).alloc (.cells #[.slice C len cap] 23) = W := ⟨_, rfl⟩
  have k0 : Blk W w.heap.size 25 #[.int .i64 n, .int .i64 o, .slice A la ca, .slice B lb cb] := by
    subst hW; exact ((Blk.new w _ _).alloc _).alloc _
  have k1 : Blk W (w.heap.size + 1) 25 #[.int .i64 n', .int .i64 o', .slice A' la' ca', .slice B' lb' cb'] := by
    subst hW
    have := (Blk.new (w.alloc (.cells #[.int .i64 n, .int .i64 o, .slice A la ca, .slice B lb cb] 25)) 25 #[.int .i64 n', .int .i64 o', .slice A' la' ca', .slice B' lb' cb']).alloc (.cells #[.slice C len cap] 23)
    simp only [World.size_alloc] at this
    exact this
  have b0 : Below w.heap.size w W := by
    subst hW; exact (((Below.refl _ _).alloc (Nat.le_refl _) _).alloc (by simp) _).alloc (by simp; omega) _
  have k2 : Blk W (w.heap.size + 2) 23 #[.slice C len cap] := by
    subst hW
    have := Blk.new ((w.alloc (.cells #[.int .i64 n, .int .i64 o, .slice A la ca, .slice B lb cb] 25)).alloc (.cells #[.int .i64 n', .int .i64 o', .slice A' la' ca', .slice B' lb' cb'] 25)) 23 #[.slice C len cap]
    simp only [World.size_alloc] at this
    exact this
  have K2 := Lib.hid k2
  have x0 := k2.cell 0
  simp at x0
  have HX0 := Lib.hid hX
  have HY0 := Lib.hid hY
  have HX0' := Lib.hid hX'
  have HY0' := Lib.hid hY'
  have HL0 := Lib.hid hL
  have B0 := Lib.hid b0
  have HW := Lib.hid hW
  have K0 := Lib.hid k0
  have K1 := Lib.hid k1
  obtain ⟨c0, c1, c2, c3⟩ := blk4 k0
  obtain ⟨d0, d1, d2, d3⟩ := blk4 k1
  obtain ⟨hb, hhb⟩ : ∃ b, isHomB n o X Y n' o' X' Y' L = b := ⟨_, rfl⟩
  rw [hhb]
  have HB := Lib.hid hhb
  clear hX hY hX' hY' hL k0 k1 k2 b0 hW hhb
  go_enter Try.func47, Try.ntmps47
  go_upto_region 1 with (fail)
  rw [HW.out]
  go_wp2_with (fail)
  refine (isHom_any n o A B la ca lb cb X Y n' o' A' B' la' ca' lb' cb' X' Y' C len cap L W (HX0.out.next B0.out) (HY0.out.next B0.out) hla hlb hca hcb (HX0'.out.next B0.out) (HY0'.out.next B0.out) hla' hlb' hca' hcb' (HL0.out.next B0.out) hlen).mono ?_
  rintro e1 w1 ⟨rfl, hb1⟩
  rw [HB.out]
  have B1 := Lib.hid (below_step B0.out hb1)
  have K01 := Lib.hid (K0.out.next hb1)
  have K21 := Lib.hid (K2.out.next hb1)
  clear hb1 c0 c1 c2 c3 d0 d1 d2 d3 x0
  cases hb
  · go_wp2
    go_ret2
    exact ⟨.slice none 0 0, rfl, by rw [ker_no HB.out]; exact SliceOut.nil, B1.out⟩
  · obtain ⟨v1, v2, v3, v4, _⟩ := hom_data HB.out
    obtain ⟨m, e, b1, o1, b2, o2, rfl, rfl, rfl, rfl, hr, _, _, _, _, _⟩ := valid_data v1 HX0.out HY0.out hca hcb
    obtain ⟨m', e', b1', o1', b2', o2', rfl, rfl, rfl, rfl, hr', _, _, _, _, _⟩ := valid_data v2 HX0'.out HY0'.out hca' hcb'
    obtain rfl : len = m := by have := HL0.out.1; omega
    obtain ⟨b, off, rfl, hlst⟩ := lst_of HL0.out v4 hr.hm
    have hm' := hr.hm'
    have hm2' := hr'.hm'
    have hm := hr.hm
    have HLS := Lib.hid hlst
    have hFL := Lib.hid (show kerL len e X Y m' e' X' Y' L = lstP len (kerB (tabOf L)) by rw [ker_yes HB.out, Int.toNat_natCast])
    have EGR := Lib.hid (enters_of Try.func99 (by kernel_rfl) rfl)
    have EG := Lib.hid (enters_of Try.func125 (by kernel_rfl) rfl)
    clear hr hr' hlst v1 v2 v3 v4
    obtain ⟨c0, c1, c2, c3⟩ := blk4 K01.out
    go_wp2_with (fail)
    refine (where2_any len e _ _ la ca lb cb 99 #[.pointer (some ⟨w.heap.size + 2, 0, none⟩)] w1).mono ?_
    rintro e3 w3 ⟨rfl, hB1, hB2, hb3⟩
    have K23 := Lib.hid (K21.out.next hb3)
    have B3 := Lib.hid (below_step B1.out hb3)
    have SQ := Lib.hid (where2_B w3.heap.size len _ (kerB (tabOf L)) _ _ w3 hm' EGR.out hB1 rfl hB2 (Nat.le_refl _) (fun a ha V hV => ker1_any (w.heap.size + 2) a b off len m' cap (tabOf L) V (K23.out.next hV) (HLS.out.next (below_step B3.out hV)) ha hm'))
    have hs3 := B3.out.size
    clear hb3 hB1 hB2 c0 c1 c2 c3
    go_wp2_with (go_at_call 75; refine (collect_any len _ w3.heap.size len _ _ _ w3 EG.out SQ.out (by omega) (Nat.le_refl _)).mono ?_; rintro e4 w4 ⟨v, rfl, ho, hb4⟩; have B4 := Lib.hid (below_step B3.out hb4); have HO := Lib.hid ho; clear hb4 ho)
    go_ret2
    exact ⟨v, rfl, by rw [hFL.out]; exact (sel_out HO.out rfl (Nat.le_trans (selTo_len _) hm')).down hs3, B4.out⟩

set_option maxHeartbeats 8000000 in
theorem sker_any (n o : Int) (A B : Option Addr) (la ca lb cb : Nat) (X Y : List Int) (n' o' : Int) (A' B' : Option Addr) (la' ca' lb' cb' : Nat) (X' Y' : List Int) (C : Option Addr) (len cap : Nat) (L : List Int) (w : World) (hX : Ints w w.heap.size A la X) (hY : Ints w w.heap.size B lb Y) (hla : la ≤ 9223372036854775807) (hlb : lb ≤ 9223372036854775807) (hca : la ≤ ca) (hcb : lb ≤ cb) (hX' : Ints w w.heap.size A' la' X') (hY' : Ints w w.heap.size B' lb' Y') (hla' : la' ≤ 9223372036854775807) (hlb' : lb' ≤ 9223372036854775807) (hca' : la' ≤ ca') (hcb' : lb' ≤ cb') (hL : Ints w w.heap.size C len L) (hlen : len ≤ 9223372036854775807) :
    Calls Try.prog 46 #[.agg #[.int .i64 n, .int .i64 o, .slice A la ca, .slice B lb cb], .agg #[.int .i64 n', .int .i64 o', .slice A' la' ca', .slice B' lb' cb'], .slice C len cap] w fun e w' => ∃ v, e = .returned (.tuple #[v, .bool (isHomB n o X Y n' o' X' Y' L)]) ∧ SliceOut w.heap.size w' v (kerL n o X Y n' o' X' Y' L) ∧ Below w.heap.size w w' := by
  obtain ⟨i0, hi, hz0, hz1, hz2⟩ := info_parts int_info
  obtain ⟨W, hW⟩ : ∃ W, ((w.alloc (.cells #[.int .i64 n, .int .i64 o, .slice A la ca, .slice B lb cb] 25)).alloc (.cells #[.int .i64 n', .int .i64 o', .slice A' la' ca', .slice B' lb' cb'] 25)).alloc (.cells #[] 3) = W := ⟨_, rfl⟩
  have k0 : Blk W w.heap.size 25 #[.int .i64 n, .int .i64 o, .slice A la ca, .slice B lb cb] := by
    subst hW; exact ((Blk.new w _ _).alloc _).alloc _
  have k1 : Blk W (w.heap.size + 1) 25 #[.int .i64 n', .int .i64 o', .slice A' la' ca', .slice B' lb' cb'] := by
    subst hW
    have := (Blk.new (w.alloc (.cells #[.int .i64 n, .int .i64 o, .slice A la ca, .slice B lb cb] 25)) 25 #[.int .i64 n', .int .i64 o', .slice A' la' ca', .slice B' lb' cb']).alloc (.cells #[] 3)
    simp only [World.size_alloc] at this
    exact this
  have b0 : Below w.heap.size w W := by
    subst hW; exact (((Below.refl _ _).alloc (Nat.le_refl _) _).alloc (by simp) _).alloc (by simp; omega) _
  have o0 : W.ownsRow w.heap.size 3 1 (.slice (some ⟨w.heap.size + 2, 0, none⟩) 0 0) 0 [] := by
    subst hW
    have := own_lit_K (w := (w.alloc (.cells #[.int .i64 n, .int .i64 o, .slice A la ca, .slice B lb cb] 25)).alloc (.cells #[.int .i64 n', .int .i64 o', .slice A' la' ca', .slice B' lb' cb'] 25)) (base := w.heap.size) (e := 3) [] (by simp; omega) (by unfold maxLen; simp)
    simpa using this
  have O0 := Lib.hid o0
  have HX0 := Lib.hid hX
  have HY0 := Lib.hid hY
  have HX0' := Lib.hid hX'
  have HY0' := Lib.hid hY'
  have HL0 := Lib.hid hL
  have B0 := Lib.hid b0
  have HW := Lib.hid hW
  have K0 := Lib.hid k0
  have K1 := Lib.hid k1
  obtain ⟨c0, c1, c2, c3⟩ := blk4 k0
  obtain ⟨d0, d1, d2, d3⟩ := blk4 k1
  obtain ⟨hb, hhb⟩ : ∃ b, isHomB n o X Y n' o' X' Y' L = b := ⟨_, rfl⟩
  rw [hhb]
  have HB := Lib.hid hhb
  clear hX hY hX' hY' hL k0 k1 b0 hW hhb o0
  go_enter Try.func46, Try.ntmps46
  go_upto_region 2 with (fail)
  rw [HW.out]
  go_wp2_with (fail)
  refine (sisHom_any n o A B la ca lb cb X Y n' o' A' B' la' ca' lb' cb' X' Y' C len cap L W (HX0.out.next B0.out) (HY0.out.next B0.out) hla hlb hca hcb (HX0'.out.next B0.out) (HY0'.out.next B0.out) hla' hlb' hca' hcb' (HL0.out.next B0.out) hlen).mono ?_
  rintro e1 w1 ⟨rfl, hb1⟩
  rw [HB.out]
  have B1 := Lib.hid (below_step B0.out hb1)
  have O1 := Lib.hid (own_nextK O0.out hb1)
  clear hb1 c0 c1 c2 c3 d0 d1 d2 d3
  cases hb
  · go_wp2
    go_ret2
    exact ⟨_, rfl, by rw [ker_no HB.out]; exact SliceOut.of_row (n := 0) O1.out rfl (by omega), B1.out⟩
  · obtain ⟨v1, v2, v3, v4, _⟩ := hom_data HB.out
    obtain ⟨m, e, b1, o1, b2, o2, rfl, rfl, rfl, rfl, hr, _, _, _, _, _⟩ := valid_data v1 HX0.out HY0.out hca hcb
    obtain ⟨m', e', b1', o1', b2', o2', rfl, rfl, rfl, rfl, hr', _, _, _, _, _⟩ := valid_data v2 HX0'.out HY0'.out hca' hcb'
    obtain rfl : len = m := by have := HL0.out.1; omega
    obtain ⟨b, off, rfl, hlst⟩ := lst_of HL0.out v4 hr.hm
    have hm' := hr.hm'
    have hm2' := hr'.hm'
    have hm := hr.hm
    have HLS := Lib.hid hlst
    have HFL := Lib.hid (show kerL len e X Y m' e' X' Y' L = finI (selTo len (kerB (tabOf L)) len) by rw [ker_yes HB.out, Int.toNat_natCast]; rfl)
    clear hr hr' hlst v1 v2 v3 v4
    go_wp2
    go_loopg [8, 20] len (fun g vs vi wr => ∃ k : Nat, k ≤ len ∧ len ≤ k + g ∧ vi = .int .i64 k ∧ wr.ownsRow w.heap.size 3 1 vs (selTo len (kerB (tabOf L)) k).length (finV (selTo len (kerB (tabOf L)) k)) ∧ Below w.heap.size w wr)
    case atStart => exact ⟨0, Nat.zero_le _, by omega, rfl, O1.out, B1.out⟩
    case round =>
      obtain ⟨k, hk, hg, rfl, hown, hb⟩ := hrel
      have hsz := hb.size
      have OW := Lib.hid hown
      have BW := Lib.hid hb
      have LW := Lib.hid (HLS.out.next hb)
      clear hown hb
      have hln := selTo_len (m := len) (p := kerB (tabOf L)) k
      by_cases hlt : k < len
      · have f1 := (LW.out.2 k hlt).1
        by_cases h0 : tabOf L k = 0
        · have t0 : (((tabOf L k : Nat) : Int) == 0) = true := by rw [beq_iff_eq]; omega
          have HQ := Lib.hid (selTo_yes (m := len) (p := kerB (tabOf L)) hlt (decide_eq_true h0))
          have wr2 : Below wr.heap.size wr (wr.alloc (.cells #[.int .i64 (k : Int)] 3)) := (Below.refl _ _).alloc (Nat.le_refl _) _
          clear h0
          go_wp2_with (at_builtin; refine wpList_append_own _ rfl _ _ 23 rfl w.heap.size 3 i0 (.int .i64 0) 1 8 Try.underlying23 hi hz0 hz1 hz2 rfl (by decide) _ _ _ rfl (OW.out.alloc _) ⟨wr.heap.size, 0, none⟩ 1 1 [.int .i64 (k : Int)] rfl rfl (by intro i u hi; match i, hi with | 0, hi => simp at hi; subst hi; simp [Addr.add]) (by intro u hu; simp at hu; subst hu; rfl) (by unfold maxLen; omega) (by omega) (by simp; omega) ?_; intro v5 w5 hown5 hg5 _; have B5 := Lib.hid ((BW.out.trans (wr2.mono hsz)).grown hg5 (Nat.le_trans hsz wr2.size) (fun k hk => (OW.out.lt k hk).1)); have O5 := Lib.hid (show w5.ownsRow w.heap.size 3 1 v5 (selTo len (kerB (tabOf L)) (k + 1)).length (finV (selTo len (kerB (tabOf L)) (k + 1))) by rw [HQ.out]; simpa [finV] using hown5); clear hown5 hg5)
          go_roundg (len - (k + 1))
          case measure => omega
          case rel => exact ⟨k + 1, by omega, by omega, by go_num, O5.out, B5.out⟩
        · have t0 : (((tabOf L k : Nat) : Int) == 0) = false := by rw [beq_eq_false_iff_ne]; omega
          have HQ := Lib.hid (selTo_no (m := len) (p := kerB (tabOf L)) (k := k) (decide_eq_false h0))
          clear h0
          go_wp2
          go_roundg (len - (k + 1))
          case measure => omega
          case rel => exact ⟨k + 1, by omega, by omega, by go_num, by rw [HQ.out]; exact OW.out, BW.out⟩
      · have hkm : k = len := by omega
        subst hkm
        go_wp2
        go_ret2
        refine ⟨_, rfl, ?_, BW.out⟩
        rw [HFL.out]
        exact sel_out OW.out rfl (by omega)

end Go.Proofs.Ytcbodedpahdobaa


/- ImageOf of both sides. -/
namespace Go.Proofs.Ytcbodedpahdobaa
open Go.RowKit Go.Shelf
set_option maxRecDepth 100000
attribute [local go_sem] Oper.semAt_some

noncomputable def imgL (n o : Int) (X Y : List Int) (n' o' : Int) (X' Y' L : List Int) : List Int := if isHomB n o X Y n' o' X' Y' L = true then lstP n'.toNat (setL L) else []
theorem img_yes {n o n' o' : Int} {X Y X' Y' L : List Int} (h : isHomB n o X Y n' o' X' Y' L = true) : imgL n o X Y n' o' X' Y' L = lstP n'.toNat (setL L) := if_pos h
theorem img_no {n o n' o' : Int} {X Y X' Y' L : List Int} (h : isHomB n o X Y n' o' X' Y' L = false) : imgL n o X Y n' o' X' Y' L = [] := if_neg (by rw [h]; simp)

def igMk (i : Nat) : Bool := i == 2 || i == 3 || i == 4
structure IgPhi (sv : Value) (U : Array Value) (D : Nat) (Z : List Int) (i : Nat) (v : Value) (w : World) : Prop where
  p2 : i = 2 → ∃ Bs, v = .func (.func 118) #[] #[.pointer (some ⟨Bs, 0, none⟩)] ∧ Blk w Bs 23 #[sv]
  p3 : i = 3 → v = .agg U
  p4 : i = 4 → SliceOut D w v Z
structure IgSh (U : Array Value) (i : Nat) (v : Value) : Prop where
  p2 : i = 2 → ∃ Bs, v = .func (.func 118) #[] #[.pointer (some ⟨Bs, 0, none⟩)]
  p3 : i = 3 → v = .agg U
  p4 : i = 4 → ∃ A l c, v = .slice A l c
theorem IgPhi_stable {sv : Value} {U : Array Value} {D : Nat} {Z : List Int} (i : Nat) (v : Value) (w w' : World) (h : IgPhi sv U D Z i v w) (hb : Below w.heap.size w w') : IgPhi sv U D Z i v w' :=
  ⟨fun e => by obtain ⟨x, h1, h2⟩ := h.p2 e; exact ⟨x, h1, h2.next hb⟩, h.p3, fun e => (h.p4 e).next hb⟩
theorem IgSh_of {sv : Value} {U : Array Value} {D : Nat} {Z : List Int} (i : Nat) (v : Value) (w : World) (h : IgPhi sv U D Z i v w) : IgSh U i v :=
  ⟨fun e => by obtain ⟨x, h1, _⟩ := h.p2 e; exact ⟨x, h1⟩, h.p3, fun e => by obtain ⟨A, l, c, h1, _⟩ := h.p4 e; exact ⟨A, l, c, h1⟩⟩
def ig0 (U : Array Value) (i : Nat) : Value := if i = 3 then .agg U else if i = 4 then .slice none 0 0 else .func (.func 118) #[] #[.pointer (some ⟨0, 0, none⟩)]
theorem IgSh_zero {U : Array Value} (i : Nat) : IgSh U i (ig0 U i) := ⟨fun e => by subst e; exact ⟨0, rfl⟩, fun e => by subst e; rfl, fun e => by subst e; exact ⟨none, 0, 0, rfl⟩⟩

set_option maxHeartbeats 8000000 in
theorem image_any (n o : Int) (A B : Option Addr) (la ca lb cb : Nat) (X Y : List Int) (n' o' : Int) (A' B' : Option Addr) (la' ca' lb' cb' : Nat) (X' Y' : List Int) (C : Option Addr) (len cap : Nat) (L : List Int) (w : World) (hX : Ints w w.heap.size A la X) (hY : Ints w w.heap.size B lb Y) (hla : la ≤ 9223372036854775807) (hlb : lb ≤ 9223372036854775807) (hca : la ≤ ca) (hcb : lb ≤ cb) (hX' : Ints w w.heap.size A' la' X') (hY' : Ints w w.heap.size B' lb' Y') (hla' : la' ≤ 9223372036854775807) (hlb' : lb' ≤ 9223372036854775807) (hca' : la' ≤ ca') (hcb' : lb' ≤ cb') (hL : Ints w w.heap.size C len L) (hlen : len ≤ 9223372036854775807) :
    Calls Try.prog 49 #[.agg #[.int .i64 n, .int .i64 o, .slice A la ca, .slice B lb cb], .agg #[.int .i64 n', .int .i64 o', .slice A' la' ca', .slice B' lb' cb'], .slice C len cap] w fun e w' => ∃ v, e = .returned (.tuple #[v, .bool (isHomB n o X Y n' o' X' Y' L)]) ∧ SliceOut w.heap.size w' v (imgL n o X Y n' o' X' Y' L) ∧ Below w.heap.size w w' := by
  obtain ⟨W, hW⟩ : ∃ W, (w.alloc (.cells #[.int .i64 n, .int .i64 o, .slice A la ca, .slice B lb cb] 25)).alloc (.cells #[.int .i64 n', .int .i64 o', .slice A' la' ca', .slice B' lb' cb'] 25) = W := ⟨_, rfl⟩
  have k0 : Blk W w.heap.size 25 #[.int .i64 n, .int .i64 o, .slice A la ca, .slice B lb cb] := by
    subst hW; exact (Blk.new w _ _).alloc _
  have k1 : Blk W (w.heap.size + 1) 25 #[.int .i64 n', .int .i64 o', .slice A' la' ca', .slice B' lb' cb'] := by
    subst hW
    have := Blk.new (w.alloc (.cells #[.int .i64 n, .int .i64 o, .slice A la ca, .slice B lb cb] 25)) 25 #[.int .i64 n', .int .i64 o', .slice A' la' ca', .slice B' lb' cb']
    simp only [World.size_alloc] at this
    exact this
  have b0 : Below w.heap.size w W := by
    subst hW; exact ((Below.refl _ _).alloc (Nat.le_refl _) _).alloc (by simp) _
  have HX0 := Lib.hid hX
  have HY0 := Lib.hid hY
  have HX0' := Lib.hid hX'
  have HY0' := Lib.hid hY'
  have HL0 := Lib.hid hL
  have B0 := Lib.hid b0
  have HW := Lib.hid hW
  have K0 := Lib.hid k0
  have K1 := Lib.hid k1
  obtain ⟨c0, c1, c2, c3⟩ := blk4 k0
  obtain ⟨d0, d1, d2, d3⟩ := blk4 k1
  obtain ⟨hb, hhb⟩ : ∃ b, isHomB n o X Y n' o' X' Y' L = b := ⟨_, rfl⟩
  rw [hhb]
  have HB := Lib.hid hhb
  clear hX hY hX' hY' hL k0 k1 b0 hW hhb
  go_enter Try.func49, Try.ntmps49
  go_upto_region 1 with (fail)
  rw [HW.out]
  go_wp2_with (fail)
  refine (isHom_any n o A B la ca lb cb X Y n' o' A' B' la' ca' lb' cb' X' Y' C len cap L W (HX0.out.next B0.out) (HY0.out.next B0.out) hla hlb hca hcb (HX0'.out.next B0.out) (HY0'.out.next B0.out) hla' hlb' hca' hcb' (HL0.out.next B0.out) hlen).mono ?_
  rintro e1 w1 ⟨rfl, hb1⟩
  rw [HB.out]
  have B1 := Lib.hid (below_step B0.out hb1)
  have K11 := Lib.hid (K1.out.next hb1)
  have s1 := hb1.size
  clear hb1 c0 c1 c2 c3 d0 d1 d2 d3
  cases hb
  · go_wp2
    go_ret2
    exact ⟨.slice none 0 0, rfl, by rw [img_no HB.out]; exact SliceOut.nil, B1.out⟩
  · obtain ⟨v1, v2, v3, v4, _⟩ := hom_data HB.out
    obtain ⟨m, e, b1, o1, b2, o2, rfl, rfl, rfl, rfl, hr, _, _, _, _, _⟩ := valid_data v1 HX0.out HY0.out hca hcb
    obtain ⟨m', e', b1', o1', b2', o2', rfl, rfl, rfl, rfl, hr', _, _, _, _, _⟩ := valid_data v2 HX0'.out HY0'.out hca' hcb'
    obtain rfl : len = m := by have := HL0.out.1; omega
    obtain ⟨b, off, rfl, hlst⟩ := lst_of HL0.out v4 hr.hm
    have hm' := hr.hm'
    have hm2' := hr'.hm'
    have hm := hr.hm
    obtain ⟨LF, rfl⟩ := finOf (all_iff.1 v4)
    obtain ⟨U, hU⟩ : ∃ U, setP (memB (finN LF)) = U := ⟨_, rfl⟩
    have HU := Lib.hid hU
    have HUA := Lib.hid (show setA (finN LF) = U from hU)
    have hZ := Lib.hid (show imgL len e X Y m' e' X' Y' (finI LF) = lstP m' (memB (finN LF)) by rw [img_yes HB.out, Int.toNat_natCast, setL_fin])
    clear hr hr' hlst v1 v2 v3 v4 hU
    go_wp2
    refine wp_region_makersE 6 igMk (IgPhi (.slice (some ⟨b, off, none⟩) len cap) U w.heap.size (lstP m' (memB (finN LF)))) (IgSh U) (ig0 U) probe (by kernel_rfl) (by kernel_rfl) IgPhi_stable (fun i v x _ => IgSh_of i v x) (fun i _ => IgSh_zero i) ?_
    intro V hV vs hvs
    obtain ⟨Bs, e3⟩ := (hvs 2 rfl).p2 rfl
    have e4 := (hvs 3 rfl).p3 rfl
    obtain ⟨A5, l5, c5, e5⟩ := (hvs 4 rfl).p4 rfl
    have cW : ∃ x, extC V x := ⟨V, extC_of (Below.refl _ _)⟩
    have kx : ∀ x, extC V x → Below w.heap.size w x := fun x ⟨u, hu⟩ => by rw [hu]; exact below_step (below_step B1.out hV) (ext_below V u)
    obtain ⟨f0, f1, f2, f3⟩ := blk4 (K11.out.next hV)
    simp only [List.take_succ_cons, List.take_zero, List.drop_succ_cons, List.drop_zero]
    refine wpV_quietE cW 2 0 _ _ (by decide) (by decide) ?_
    simp only [List.take_succ_cons, List.take_zero, List.drop_succ_cons, List.drop_zero]
    repeat (go_big_quiet_step (fail))
    refine wpQuiet_nil ?_
    refine wpV_make_E rfl rfl (fun x hx _ => ?_) ?_
    · unfold makesAtE
      go_simp
      refine ⟨rfl, (values_any (some ⟨b, off, none⟩) len cap x).mono ?_⟩
      rintro _ x' ⟨rfl, hB, hb⟩
      exact ⟨_, rfl, hb, ⟨fun _ => ⟨_, rfl, hB⟩, fun e => absurd e (by decide), fun e => absurd e (by decide)⟩, fun b hbb => (by cases hbb)⟩
    rw [e3]
    go_simp
    refine wpV_make_E rfl rfl (fun x hx hd => ?_) ?_
    · obtain ⟨Bs', q1, hB⟩ := (hd ⟨2, .data⟩ (by simp) rfl rfl).p2 rfl
      rw [e3] at q1
      simp only [Value.func.injEq, Array.mk.injEq, List.cons.injEq, Value.pointer.injEq, Option.some.injEq, Addr.mk.injEq, true_and, and_true] at q1
      subst q1
      unfold makesAtE
      go_simp
      refine ⟨rfl, (setOf_any m' _ x.heap.size len _ LF _ x hm2' (enters_of Try.func118 (by kernel_rfl) rfl) (values_seq (n0 := x.heap.size) LF x hlen hB ((HL0.out.next (kx x hx))) (Nat.le_refl _)) (Nat.le_refl _)).mono ?_⟩
      rw [HUA.out]
      rintro _ x' ⟨rfl, hb⟩
      exact ⟨_, rfl, hb, ⟨fun e => absurd e (by decide), fun _ => rfl, fun e => absurd e (by decide)⟩, fun b hbb => (by cases hbb)⟩
    rw [e4]
    go_simp
    refine wpV_make_E rfl rfl (fun x hx hd => ?_) ?_
    · unfold makesAtE
      go_simp
      refine ⟨rfl, ?_⟩
      rw [← HU.out]
      refine (elements_any _ m' e' _ _ la' ca' lb' cb' x hm2').mono ?_
      rintro _ x' ⟨v, rfl, ho, hb⟩
      exact ⟨_, rfl, hb, ⟨fun e => absurd e (by decide), fun e => absurd e (by decide), fun _ => ho.down (kx x hx).size⟩, fun b hbb => (by cases hbb)⟩
    rw [e5]
    go_simp
    refine wpV_quietE cW 1 _ _ _ (by decide) (by decide) ?_
    simp only [List.take_succ_cons, List.take_zero, List.drop_succ_cons, List.drop_zero]
    repeat (go_big_quiet_step (fail))
    refine wpQuiet_nil ?_
    refine wpV_nilE ?_
    intro w3 hb3 hf _
    have h5 := (hf 4 (by decide) rfl).p4 rfl
    rw [e5] at h5
    have H5 := Lib.hid h5
    have BB := Lib.hid (below_step B1.out hb3)
    clear hb3 hf h5
    go_wp2
    go_ret2
    exact ⟨.slice A5 l5 c5, rfl, by rw [hZ.out]; exact H5.out, BB.out⟩

set_option maxHeartbeats 8000000 in
theorem simage_any (n o : Int) (A B : Option Addr) (la ca lb cb : Nat) (X Y : List Int) (n' o' : Int) (A' B' : Option Addr) (la' ca' lb' cb' : Nat) (X' Y' : List Int) (C : Option Addr) (len cap : Nat) (L : List Int) (w : World) (hX : Ints w w.heap.size A la X) (hY : Ints w w.heap.size B lb Y) (hla : la ≤ 9223372036854775807) (hlb : lb ≤ 9223372036854775807) (hca : la ≤ ca) (hcb : lb ≤ cb) (hX' : Ints w w.heap.size A' la' X') (hY' : Ints w w.heap.size B' lb' Y') (hla' : la' ≤ 9223372036854775807) (hlb' : lb' ≤ 9223372036854775807) (hca' : la' ≤ ca') (hcb' : lb' ≤ cb') (hL : Ints w w.heap.size C len L) (hlen : len ≤ 9223372036854775807) :
    Calls Try.prog 48 #[.agg #[.int .i64 n, .int .i64 o, .slice A la ca, .slice B lb cb], .agg #[.int .i64 n', .int .i64 o', .slice A' la' ca', .slice B' lb' cb'], .slice C len cap] w fun e w' => ∃ v, e = .returned (.tuple #[v, .bool (isHomB n o X Y n' o' X' Y' L)]) ∧ SliceOut w.heap.size w' v (imgL n o X Y n' o' X' Y' L) ∧ Below w.heap.size w w' := by
  obtain ⟨W, hW⟩ : ∃ W, (w.alloc (.cells #[.int .i64 n, .int .i64 o, .slice A la ca, .slice B lb cb] 25)).alloc (.cells #[.int .i64 n', .int .i64 o', .slice A' la' ca', .slice B' lb' cb'] 25) = W := ⟨_, rfl⟩
  have k0 : Blk W w.heap.size 25 #[.int .i64 n, .int .i64 o, .slice A la ca, .slice B lb cb] := by
    subst hW; exact (Blk.new w _ _).alloc _
  have k1 : Blk W (w.heap.size + 1) 25 #[.int .i64 n', .int .i64 o', .slice A' la' ca', .slice B' lb' cb'] := by
    subst hW
    have := Blk.new (w.alloc (.cells #[.int .i64 n, .int .i64 o, .slice A la ca, .slice B lb cb] 25)) 25 #[.int .i64 n', .int .i64 o', .slice A' la' ca', .slice B' lb' cb']
    simp only [World.size_alloc] at this
    exact this
  have b0 : Below w.heap.size w W := by
    subst hW; exact ((Below.refl _ _).alloc (Nat.le_refl _) _).alloc (by simp) _
  have HX0 := Lib.hid hX
  have HY0 := Lib.hid hY
  have HX0' := Lib.hid hX'
  have HY0' := Lib.hid hY'
  have HL0 := Lib.hid hL
  have B0 := Lib.hid b0
  have HW := Lib.hid hW
  have K0 := Lib.hid k0
  have K1 := Lib.hid k1
  obtain ⟨c0, c1, c2, c3⟩ := blk4 k0
  obtain ⟨d0, d1, d2, d3⟩ := blk4 k1
  obtain ⟨hb, hhb⟩ : ∃ b, isHomB n o X Y n' o' X' Y' L = b := ⟨_, rfl⟩
  rw [hhb]
  have HB := Lib.hid hhb
  clear hX hY hX' hY' hL k0 k1 b0 hW hhb
  go_enter Try.func48, Try.ntmps48
  go_upto_region 1 with (fail)
  rw [HW.out]
  go_wp2_with (fail)
  refine (sisHom_any n o A B la ca lb cb X Y n' o' A' B' la' ca' lb' cb' X' Y' C len cap L W (HX0.out.next B0.out) (HY0.out.next B0.out) hla hlb hca hcb (HX0'.out.next B0.out) (HY0'.out.next B0.out) hla' hlb' hca' hcb' (HL0.out.next B0.out) hlen).mono ?_
  rintro e1 w1 ⟨rfl, hb1⟩
  rw [HB.out]
  have B1 := Lib.hid (below_step B0.out hb1)
  have s1 := hb1.size
  clear hb1 c0 c1 c2 c3 d0 d1 d2 d3
  cases hb
  · go_wp2
    go_ret2
    refine ⟨_, rfl, ?_, B1.out.alloc B1.out.size _⟩
    rw [img_no HB.out]
    exact SliceOut.of_row (n := 0) (own_lit_K [] B1.out.size (by unfold maxLen; simp)) rfl (by omega)
  · obtain ⟨v1, v2, v3, v4, _⟩ := hom_data HB.out
    obtain ⟨m, e, b1, o1, b2, o2, rfl, rfl, rfl, rfl, hr, _, _, _, _, _⟩ := valid_data v1 HX0.out HY0.out hca hcb
    obtain ⟨m', e', b1', o1', b2', o2', rfl, rfl, rfl, rfl, hr', _, _, _, _, _⟩ := valid_data v2 HX0'.out HY0'.out hca' hcb'
    obtain rfl : len = m := by have := HL0.out.1; omega
    obtain ⟨b, off, rfl, hlst⟩ := lst_of HL0.out v4 hr.hm
    have hm' := hr.hm'
    have hm2' := hr'.hm'
    have hm := hr.hm
    obtain ⟨LF, rfl⟩ := finOf (all_iff.1 v4)
    have hZ := Lib.hid (show imgL len e X Y m' e' X' Y' (finI LF) = lstP m' (memB (finN LF)) by rw [img_yes HB.out, Int.toNat_natCast, setL_fin])
    clear hr hr' hlst v1 v2 v3 v4
    go_wp2_with (fail)
    refine (l4Of_any m' _ len cap LF w1 hm2' (HL0.out.next B1.out) hlen).mono ?_
    rintro e2 w2 ⟨rfl, hb2⟩
    have B2 := Lib.hid (below_step B1.out hb2)
    clear hb2
    have hp : ∀ i, memB (finN LF) i = true → i < m' := fun i hi => by
      have := memB_iff.1 hi
      simp only [finN, List.mem_map] at this
      obtain ⟨z, _, rfl⟩ := this
      exact z.2
    go_wp2_with (fail)
    refine (l3SetP_any (memB (finN LF)) m' w2 hm2' hp).mono ?_
    rintro e3 w3 ⟨v3, rfl, ho3, hb3⟩
    have B3 := Lib.hid (below_step B2.out hb3)
    have H3 := Lib.hid (ho3.down B2.out.size)
    clear hb3 ho3
    go_wp2
    go_ret2
    exact ⟨v3, rfl, by rw [hZ.out]; exact H3.out, B3.out⟩

end Go.Proofs.Ytcbodedpahdobaa
