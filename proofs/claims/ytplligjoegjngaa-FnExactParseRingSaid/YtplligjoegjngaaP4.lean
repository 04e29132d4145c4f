/- A text that is cut at a byte: l13Cut. -/
import Derived.Test.YtplligjoegjngaaP3
namespace Go.Proofs.Ytplligjoegjngaa
open Go.RowKit
set_option maxRecDepth 100000

def cutF (s : ByteArray) (c : UInt8) : Nat → List ByteArray → Nat → Nat → List ByteArray
  | 0, pre, f, k => pre ++ [s.extract f k]
  | n + 1, pre, f, k => if s.data.toList[k]? = some c then cutF s c n (pre ++ [s.extract f k]) (k + 1) (k + 1) else cutF s c n pre f (k + 1)
def cutL (s : ByteArray) (c : UInt8) : List ByteArray := cutF s c s.size [] 0 0
def strsV (l : List ByteArray) : List Value := l.map .string
theorem strsV_one (l : List ByteArray) (x : ByteArray) : strsV l ++ [.string x] = strsV (l ++ [x]) := by simp [strsV]
theorem str_info : (Try.prog.info? 9).map (fun i => (i.zero, i.size, i.bytes)) = some (some (.string ⟨#[]⟩), 1, 16) := by kernel_rfl

/-- Where the cutting stands. -/
def CutAt (s : ByteArray) (c : UInt8) (pre : List ByteArray) (f k : Nat) (R : List ByteArray) : Prop := (k ≤ s.size ∧ cutF s c (s.size - k) pre f k = R) ∨ (k = s.size + 1 ∧ pre = R)
theorem cutF_pos {s : ByteArray} {c : UInt8} : ∀ n pre f k, 0 < (cutF s c n pre f k).length
  | 0, pre, f, k => by simp [cutF]
  | n + 1, pre, f, k => by
    unfold cutF
    split
    · exact cutF_pos n _ _ _
    · exact cutF_pos n _ _ _
theorem cut_pos {s : ByteArray} {c : UInt8} : 0 < (cutL s c).length := cutF_pos _ _ _ _
theorem append_below {w0 wr w3 : World} {o : Obj} {n : Nat} {e : TypeId} {v : Value} {xs : List Value} (h : wr.ownsRow w0.heap.size e 1 v n xs) (hg : (wr.alloc o).grownBy w3 v.ownBlock) (hD : w0.heap.size ≤ wr.heap.size) : Below w0.heap.size wr w3 :=
  ((Below.refl _ _).alloc hD o).grown hg (by simp; omega) (fun k hk => (h.lt k hk).1)

set_option maxHeartbeats 2000000 in
theorem l13Cut_any (s : ByteArray) (c : UInt8) (w : World) (hs : s.size ≤ 1048576) :
    Calls Try.prog 99 #[.string s, .int .u8 (c.toNat : Int)] w fun e w' => ∃ g cap, e = .returned (.slice (some ⟨g, 0, none⟩) (cutL s c).length cap) ∧ w'.ownsRow w.heap.size 9 1 (.slice (some ⟨g, 0, none⟩) (cutL s c).length cap) (cutL s c).length (strsV (cutL s c)) ∧ Below w.heap.size w w' := by
  obtain ⟨i0, hi, hz0, hz1, hz2⟩ := info_parts str_info
  have HR : Hid (∃ R, R = cutL s c) := ⟨_, rfl⟩
  obtain ⟨R, hR⟩ := HR.out
  rw [← hR]
  have HRR := Lib.hid hR
  clear HR hR
  go_enter Try.func99, Try.ntmps99
  go_wp2
  have O0 := Lib.hid (own_literal (w := w) (base := w.heap.size) (e := 9) [] (Nat.le_refl _) (by unfold maxLen; simp))
  have B0 := Lib.hid ((Below.refl w.heap.size w).alloc (Nat.le_refl _) (.cells #[] 9))
  go_loopg [5, 6, 7] (s.size + 1) (fun g vv fv i wr => ∃ (k f n : Nat) (pre : List ByteArray), k ≤ s.size + 1 ∧ s.size + 1 ≤ k + g ∧ n ≤ k ∧ f ≤ k ∧ fv = .int .i64 f ∧ i = .int .i64 k ∧ wr.ownsRow w.heap.size 9 1 vv n (strsV pre) ∧ Below w.heap.size w wr ∧ CutAt s c pre f k R)
  case atStart => exact ⟨0, 0, 0, [], Nat.zero_le _, by omega, Nat.le_refl _, Nat.le_refl _, rfl, rfl, O0.out, B0.out, .inl ⟨Nat.zero_le _, HRR.out.symm⟩⟩
  case round =>
    obtain ⟨k, f, n, pre, hk, hgk, hnk, hfk, rfl, rfl, hown, hbel, hcut⟩ := hrel
    have OW := Lib.hid hown
    have BW := Lib.hid hbel
    have hsz := hbel.size
    have HC := Lib.hid hcut
    clear hown hbel hcut
    by_cases hlt : k ≤ s.size
    · have hcur := Lib.hid (HC.out.resolve_right (fun h => by have := h.1; omega)).2
      by_cases hend : k = s.size
      · have HE := Lib.hid hend
        have t1 : ((k : Int) == (s.size : Int)) = true := by rw [beq_iff_eq]; omega
        have hx1 : k ≤ s.size := by omega
        have hx2 : s.size ≤ k := by omega
        clear hend
        go_wp2_with (at_builtin; refine wpList_append_own _ rfl _ _ 92 rfl w.heap.size 9 i0 (.string ⟨#[]⟩) 1 16 Try.underlying92 hi hz0 hz1 hz2 rfl (by decide) _ _ _ rfl (OW.out.alloc _) ⟨wr.heap.size, 0, none⟩ 1 1 [.string (s.extract f k)] rfl rfl (by intro j u hj; match j, hj with | 0, hj => simp at hj; subst hj; simp [Addr.add]) (by intro u hu; simp at hu; subst hu; rfl) (by unfold maxLen; omega) (by omega) (by simp; omega) ?_; intro v3 w3 hown3 hg3 _)
        have kp := append_below (OW.out) hg3 hsz
        have B3 := Lib.hid (BW.out.trans kp)
        have O3 := Lib.hid (show w3.ownsRow w.heap.size 9 1 v3 (n + 1) (strsV (pre ++ [s.extract f k])) by rw [← strsV_one]; exact hown3)
        clear hown3 hg3 kp
        go_wp2
        go_roundg (s.size + 1 - (k + 1))
        case measure => omega
        case rel => exact ⟨k + 1, k + 1, n + 1, pre ++ [s.extract f k], by omega, by omega, by omega, Nat.le_refl _, by go_num, by go_num, O3.out, B3.out, .inr ⟨by omega, by have := hcur.out; rw [show s.size - k = 0 by omega] at this; exact this⟩⟩
      · have hks : k < s.size := by omega
        have t1 : ((k : Int) == (s.size : Int)) = false := by rw [beq_eq_false_iff_ne]; omega
        have HB := Lib.hid (byte_some hks)
        have HF := Lib.hid (show s.size - k = (s.size - (k + 1)) + 1 by omega)
        by_cases he : s[k] = c
        · have HE := Lib.hid he
          have tt : (((s[k].toNat : Nat) : Int) == ((c.toNat : Nat) : Int)) = true := by rw [beq_iff_eq, he]
          clear he
          go_wp2_with (at_builtin; refine wpList_append_own _ rfl _ _ 92 rfl w.heap.size 9 i0 (.string ⟨#[]⟩) 1 16 Try.underlying92 hi hz0 hz1 hz2 rfl (by decide) _ _ _ rfl (OW.out.alloc _) ⟨wr.heap.size, 0, none⟩ 1 1 [.string (s.extract f k)] rfl rfl (by intro j u hj; match j, hj with | 0, hj => simp at hj; subst hj; simp [Addr.add]) (by intro u hu; simp at hu; subst hu; rfl) (by unfold maxLen; omega) (by omega) (by simp; omega) ?_; intro v3 w3 hown3 hg3 _)
          have kp := append_below (OW.out) hg3 hsz
          have B3 := Lib.hid (BW.out.trans kp)
          have O3 := Lib.hid (show w3.ownsRow w.heap.size 9 1 v3 (n + 1) (strsV (pre ++ [s.extract f k])) by rw [← strsV_one]; exact hown3)
          clear hown3 hg3 kp
          go_wp2
          go_roundg (s.size + 1 - (k + 1))
          case measure => omega
          case rel => exact ⟨k + 1, k + 1, n + 1, pre ++ [s.extract f k], by omega, by omega, by omega, Nat.le_refl _, by go_num, by go_num, O3.out, B3.out, .inl ⟨by omega, by rw [← hcur.out, HF.out, cutF, if_pos (by rw [HB.out, HE.out])]⟩⟩
        · have HE := Lib.hid he
          have tt : (((s[k].toNat : Nat) : Int) == ((c.toNat : Nat) : Int)) = false := by
            rw [beq_eq_false_iff_ne]
            intro h
            exact he (UInt8.toNat_inj.1 (by omega))
          clear he
          go_wp2
          go_roundg (s.size + 1 - (k + 1))
          case measure => omega
          case rel => exact ⟨k + 1, f, n, pre, by omega, by omega, by omega, by omega, rfl, by go_num, OW.out, BW.out, .inl ⟨by omega, by rw [← hcur.out, HF.out, cutF, if_neg (by rw [HB.out]; simpa using HE.out)]⟩⟩
    · have hp := HC.out.resolve_left (fun h => by have := h.1; omega)
      have hpre := hp.2
      subst hpre
      have hln : pre.length = n := by have := OW.out.1; simpa [strsV] using this
      subst hln
      have HPS := Lib.hid (show 0 < pre.length by rw [HRR.out]; exact cut_pos)
      obtain ⟨g, cap, hv⟩ : ∃ g cap, u5 = .slice (some ⟨g, 0, none⟩) pre.length cap := by
        rcases OW.out.2 with ⟨_, h0⟩ | ⟨g, cap, cur, hv, _⟩
        · have := HPS.out
          simp at h0
          simp [h0] at this
        · exact ⟨g, cap, hv⟩
      subst hv
      go_wp2
      go_ret
      exact ⟨g, cap, rfl, OW.out, BW.out⟩

end Go.Proofs.Ytplligjoegjngaa
