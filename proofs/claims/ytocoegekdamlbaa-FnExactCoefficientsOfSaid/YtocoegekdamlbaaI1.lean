
/- An iterator over the elements that pass a test: the closure of where. -/
import Derived.Test.YtocoegekdamlbaaN5
import Derived.RangeFuncNested
import Derived.RangeFuncBound
import Derived.RangeFuncCalls
import Derived.RangeFuncLeaves
import Derived.RangeFuncBox
import Derived.Shelf.Abstract
import Derived.Shelf.RegionOpen
import Derived.OwnWalkIn
import Derived.TacticsInMore
import Derived.LoopNIn
import Derived.LoopIn
namespace Go.Proofs.Ytocoegekdamlbaa
open Go.RowKit Go.Shelf
set_option maxRecDepth 100000
attribute [local go_sem] Oper.semAt_some

/-- The elements of a ring of m that pass a test, up to k. -/
def selTo (m : Nat) (p : Nat → Bool) : Nat → List (Fin m)
  | 0 => []
  | k + 1 => if h : k < m then (if p k = true then selTo m p k ++ [⟨k, h⟩] else selTo m p k) else selTo m p k
section
variable {m k : Nat} {p : Nat → Bool}
theorem selTo_yes (h : k < m) (hp : p k = true) : selTo m p (k + 1) = selTo m p k ++ [⟨k, h⟩] := by
  show (if h : k < m then (if p k = true then selTo m p k ++ [⟨k, h⟩] else selTo m p k) else selTo m p k) = _
  rw [dif_pos h, if_pos hp]
theorem selTo_no (hp : p k = false) : selTo m p (k + 1) = selTo m p k := by
  show (if h : k < m then (if p k = true then selTo m p k ++ [⟨k, h⟩] else selTo m p k) else selTo m p k) = _
  split
  · rw [if_neg (by rw [hp]; simp)]
  · rfl
theorem selTo_len : ∀ k, (selTo m p k).length ≤ k
  | 0 => Nat.le_refl _
  | k + 1 => by
    have := selTo_len k
    simp only [selTo]
    split
    · split <;> simp <;> omega
    · omega
theorem selTo_pre : ∀ d, selTo m p k <+: selTo m p (k + d)
  | 0 => List.prefix_refl _
  | d + 1 => by
    refine (selTo_pre d).trans ?_
    show _ <+: selTo m p (k + d + 1)
    simp only [selTo]
    split
    · split
      · exact List.prefix_append _ _
      · exact List.prefix_refl _
    · exact List.prefix_refl _
theorem selTo_le {l : Nat} (h : k ≤ l) : selTo m p k <+: selTo m p l := by
  have := selTo_pre (m := m) (p := p) (k := k) (l - k)
  rwa [show k + (l - k) = l by omega] at this
end

set_option maxHeartbeats 2000000 in
theorem where1_in (n m l Br Bp pf : Nat) (bd : Array Value) (p : Nat → Bool) (hn : 1 ≤ n) (hm' : m ≤ 16) (Kp : World → World → Prop) (Inv : World → Prop)
    (eg : ∀ args w, (callFunc pf args).run Try.prog w = .ok (.enter pf args) w)
    (i1 : ∀ W, Inv W → W.cell? ⟨Br, 0, none⟩ = some (.int .i64 m)) (i2 : ∀ W, Inv W → W.cell? ⟨Bp, 0, none⟩ = some (.func (.func pf) bd #[])) (i3 : ∀ W W', Inv W → Below W.heap.size W W' → Inv W') (i4 : ∀ W W', Inv W → Kp W W' → Inv W')
    (hp : ∀ a, a < m → ∀ W, Inv W → Calls Try.prog pf (bd.push (.int .i64 a)) W fun e w' => e = .returned (.bool (p a)) ∧ Below W.heap.size W w')
    (J Jx : List (Fin m) → World → Prop) (W : World) (hJ : AbidesFrom W.heap.size J)
    (hY : ∀ pre x W1, J pre W1 → pre.length < m → YieldAt Fence.wide (n - 1) Try.prog l #[.int .i64 (x.1 : Int)] W1 fun e W' =>
      (e = .returned (.bool true) ∧ J (pre ++ [x]) W' ∧ Kp W1 W') ∨ (e = .returned (.bool false) ∧ Jx (pre ++ [x]) W'))
    (hW : Inv W) (h0 : J [] W) :
    CallsIn Fence.wide n Try.prog 95 #[.func (.yield l) #[] #[], .pointer (some ⟨Br, 0, none⟩), .pointer (some ⟨Bp, 0, none⟩)] W fun e W' => (∃ v, e = .returned v) ∧
      ((∃ ys, ys = selTo m p m ∧ J ys W') ∨ (∃ pre, pre <+: selTo m p m ∧ Jx pre W')) := by
  have c1 := i1 W hW
  refine callsIn_of_wp Try.func95 rfl trivial ?_ rfl
  simp only [Try.ntmps95, List.size_toArray, List.length_cons, List.length_nil, Nat.reduceAdd, Nat.reduceSub, Array.replicate_succ, Array.replicate_zero, List.push_toArray, List.append_toArray, List.nil_append, List.cons_append]
  gi_wp2
  gi_loopw [7] (fun i wr => ∃ k : Nat, k ≤ m ∧ i = .int .i64 k ∧ J (selTo m p k) wr ∧ Inv wr) (fun i _ => m - (intOf i).toNat)
  case atStart => exact ⟨0, Nat.zero_le _, rfl, h0, hW⟩
  case round =>
    obtain ⟨k, hk, rfl, hJs, hI⟩ := hrel
    have c2 := i2 wr hI
    have JS := Lib.hid hJs
    clear hJs
    by_cases hlt : k < m
    · cases hq : p k
      · have hpk := hp k hlt wr hI
        rw [hq] at hpk
        have HQ := Lib.hid hq
        gi_wp2
        refine ⟨trivial, (callsIn_wide.2 hpk).mono ?_⟩
        rintro e w1 ⟨rfl, hb1⟩
        clear hpk
        gi_wp2
        refine ⟨fun _ h => (by cases h), ?_⟩
        gi_wp2
        go_roundw
        case rel => exact ⟨k + 1, by omega, by go_num, by rw [selTo_no HQ.out]; exact hJ _ wr w1 none JS.out (Below.grown_ hb1) (fun r e => by cases e), i3 _ _ hI hb1⟩
        case measure => simp [intOf]; omega
      · have hpk := hp k hlt wr hI
        rw [hq] at hpk
        have HQ := Lib.hid hq
        gi_wp2
        refine ⟨trivial, (callsIn_wide.2 hpk).mono ?_⟩
        rintro e w1 ⟨rfl, hb1⟩
        clear hpk
        have hl := selTo_len (m := m) (p := p) k
        obtain ⟨fn, tmps, assign, body, hy, hR⟩ := hY _ ⟨k, hlt⟩ w1 (hJ _ wr w1 none JS.out (Below.grown_ hb1) (fun r e => by cases e)) (by omega)
        dsimp only at hy
        have HI1 := Lib.hid (i3 _ _ hI hb1)
        gi_wp2
        refine hR.mono ?_
        rintro e W3 (⟨rfl, hJ3, hk3⟩ | ⟨rfl, hJx3⟩)
        · have HI3 := Lib.hid (i4 _ _ HI1.out hk3)
          gi_wp2
          go_roundw
          case rel => exact ⟨k + 1, by omega, by go_num, by rw [selTo_yes hlt HQ.out]; exact hJ3, HI3.out⟩
          case measure => simp [intOf]; omega
        · gi_wp2
          refine bodyPost_ret (results_none rfl _ _ _) rfl ?_
          exact ⟨⟨_, rfl⟩, .inr ⟨_, by rw [← selTo_yes hlt HQ.out]; exact selTo_le hlt, hJx3⟩⟩
    · have hkm : k = m := by omega
      subst hkm
      gi_wp2
      go_end0
      exact ⟨⟨_, rfl⟩, .inl ⟨_, rfl, JS.out⟩⟩

end Go.Proofs.Ytocoegekdamlbaa
