/- A table that is read from a text: readTable. -/
import Derived.Test.YtplligjoegjngaaP1
namespace Go.Proofs.Ytplligjoegjngaa
open Go.RowKit
set_option maxRecDepth 100000

def digL : List UInt8 := [48, 49, 50, 51, 52, 53, 54, 55, 56, 57, 97, 98, 99, 100, 101, 102]
/-- The number of a digit, or -1. -/
def digI (c : UInt8) : Int := Lib.indexByte digL c
/-- The entry of a table in its text. -/
def rdAt (m : Nat) (K : List UInt8) (j : Nat) : Int := digI (K.getD (j / m * (m + 1) + j % m) 0)
def rdTo (m : Nat) (K : List UInt8) (k : Nat) : List Int := (List.range k).map (rdAt m K)
theorem rdTo_len {m : Nat} {K : List UInt8} {k : Nat} : (rdTo m K k).length = k := by simp [rdTo]
theorem rdTo_succ {m : Nat} {K : List UInt8} {k : Nat} : rdTo m K (k + 1) = rdTo m K k ++ [rdAt m K k] := by simp [rdTo, List.range_succ]
theorem rdAt_ab {m a b : Nat} {K : List UInt8} (hb : b < m) : rdAt m K (a * m + b) = digI (K.getD (a * (m + 1) + b) 0) := by
  unfold rdAt
  have e1 : (a * m + b) / m = a := by rw [Nat.mul_comm, Nat.mul_add_div (by omega), Nat.div_eq_of_lt hb, Nat.add_zero]
  have e2 : (a * m + b) % m = b := by rw [Nat.mul_comm, Nat.mul_add_mod, Nat.mod_eq_of_lt hb]
  rw [e1, e2]
theorem rd_nums {m a b : Nat} (hm' : m ≤ 16) (ha : a < m) (hb : b < m) : a * (m + 1) + b + 2 ≤ m * (m + 1) ∧ a * (m + 1) ≤ 272 ∧ (a : Int) * ((m : Int) + 1) = ((a * (m + 1) : Nat) : Int) := by
  have h1 : (a + 1) * (m + 1) ≤ m * (m + 1) := Nat.mul_le_mul_right _ ha
  have h2 : (a + 1) * (m + 1) = a * (m + 1) + (m + 1) := Nat.succ_mul _ _
  have h3 : a * (m + 1) ≤ 16 * 17 := Nat.mul_le_mul (by omega) (by omega)
  refine ⟨by omega, by omega, by simp⟩
def intsV (l : List Int) : List Value := l.map (.int .i64)
theorem intsV_one (l : List Int) (x : Int) : intsV l ++ [.int .i64 x] = intsV (l ++ [x]) := by simp [intsV]
theorem byte_get {s : ByteArray} {i : Nat} (h : i < s.size) : s.data.toList.getD i 0 = s[i] := by
  rw [List.getD_eq_getElem?_getD, List.getElem?_eq_getElem (by simpa using h)]; rfl
theorem byte_back (c : UInt8) : ((c.toNat : Int)).toNat.toUInt8 = c := by simp

set_option maxHeartbeats 2000000 in
theorem readTable_any (s : ByteArray) (m : Nat) (w : World) (hm : 1 ≤ m) (hm' : m ≤ 16) (hs : m * (m + 1) ≤ s.size + 1) (hs2 : s.size ≤ 9223372036854775807) :
    Calls Try.prog 109 #[.string s, .int .i64 m] w fun e w' => ∃ g cap, e = .returned (.slice (some ⟨g, 0, none⟩) (m * m) cap) ∧ w'.ownsRow w.heap.size 3 1 (.slice (some ⟨g, 0, none⟩) (m * m) cap) (m * m) (intsV (rdTo m s.data.toList (m * m))) ∧ Below w.heap.size w w' := by
  obtain ⟨i0, hi, hz0, hz1, hz2⟩ := info_parts int_info
  obtain ⟨s1, s2⟩ := sq_le hm'
  have hsq : m * m ≤ 256 := Nat.mul_le_mul hm' hm'
  have hmm := Lib.hid (show (m : Int) * m = ((m * m : Nat) : Int) by simp)
  have HS := Lib.hid hs
  clear hs
  go_enter Try.func109, Try.ntmps109
  go_wp2_with (at_make; refine wpList_make_own _ rfl _ _ 22 rfl w.heap.size 3 i0 (.int .i64 0) 1 Try.underlying22 hi hz0 hz1 _ _ _ (m * m) rfl rfl hmm.out (by rw [hz2]; omega) (by unfold maxLen; omega) (Nat.le_refl _) ?_; intro w1 hown1 hg1)
  have O1 := Lib.hid hown1
  have B1 := Lib.hid ((Below.refl w.heap.size w).grown hg1 (Nat.le_refl _) (by simp))
  clear hown1 hg1
  go_loopg [5, 13] m (fun g vv i wr => ∃ a : Nat, a ≤ m ∧ m ≤ a + g ∧ i = .int .i64 a ∧ wr.ownsRow w.heap.size 3 1 vv (a * m) (intsV (rdTo m s.data.toList (a * m))) ∧ Below w.heap.size w wr)
  case atStart => exact ⟨0, Nat.zero_le _, by omega, rfl, by simpa [rdTo, intsV] using O1.out, B1.out⟩
  case round =>
    obtain ⟨a, ha, hga, rfl, hown, hbel⟩ := hrel
    have OW0 := Lib.hid hown
    have BW0 := Lib.hid hbel
    clear hown hbel
    by_cases hlt : a < m
    · obtain ⟨w0, rfl⟩ : ∃ w0, w0 = wr := ⟨_, rfl⟩
      obtain ⟨g1, hg1⟩ : ∃ g1, g1 = gk := ⟨_, rfl⟩
      go_wp2
      go_loopg [5, 17] m (fun g vv i wr => ∃ c : Nat, c ≤ m ∧ m ≤ c + g ∧ i = .int .i64 c ∧ wr.ownsRow w.heap.size 3 1 vv (a * m + c) (intsV (rdTo m s.data.toList (a * m + c))) ∧ Below w.heap.size w wr)
      case atStart => exact ⟨0, Nat.zero_le _, by omega, rfl, OW0.out, BW0.out⟩
      case round =>
        obtain ⟨c, hcm, hgc, rfl, hown, hbel⟩ := hrel
        have OW := Lib.hid hown
        have BW := Lib.hid hbel
        have hsz := hbel.size
        clear hown hbel
        by_cases hlt2 : c < m
        · obtain ⟨r1, r2, r3⟩ := rd_nums hm' hlt hlt2
          have hidx : a * (m + 1) + c < s.size := by have := HS.out; omega
          have hn : a * m + c < 256 := by have := idx_lt hlt hlt2; omega
          have i1 : (a : Int) * ((m : Int) + 1) ≤ 272 := by rw [r3]; omega
          have i2 : 0 ≤ (a : Int) * ((m : Int) + 1) := by rw [r3]; omega
          have i3 : (a : Int) * ((m : Int) + 1) + c < s.size := by rw [r3]; omega
          have HD := Lib.hid (rdAt_ab (K := s.data.toList) (a := a) hlt2)
          have HG := Lib.hid (byte_get hidx)
          have R3 := Lib.hid r3
          clear r1 r3
          go_wp2_with (fail)
          refine (indexByte_any _ _ _).mono ?_
          rintro e1 w2 ⟨rfl, rfl⟩
          obtain ⟨x, hx⟩ : ∃ x : Int, Lib.indexByte (ByteArray.mk #[48, 49, 50, 51, 52, 53, 54, 55, 56, 57, 97, 98, 99, 100, 101, 102]).data.toList ((s[a * (m + 1) + c].toNat : Int)).toNat.toUInt8 = x := ⟨_, rfl⟩
          rw [hx]
          have HX := Lib.hid (show x = rdAt m s.data.toList (a * m + c) by rw [HD.out, HG.out, ← hx, byte_back]; rfl)
          clear hx
          go_wp2_with (at_builtin; refine wpList_append_own _ rfl _ _ 22 rfl w.heap.size 3 i0 (.int .i64 0) 1 8 Try.underlying22 hi hz0 hz1 hz2 rfl (by decide) _ _ _ rfl (OW.out.alloc _) ⟨wr.heap.size, 0, none⟩ 1 1 [.int .i64 x] rfl rfl (by intro j u hj; match j, hj with | 0, hj => simp at hj; subst hj; simp [Addr.add]) (by intro u hu; simp at hu; subst hu; rfl) (by unfold maxLen; omega) (by omega) (by simp; omega) ?_; intro v3 w3 hown3 hg3 _)
          have hb2 : Below wr.heap.size wr (wr.alloc (.cells #[.int .i64 x] 3)) := (Below.refl _ _).alloc (Nat.le_refl _) _
          have B3 := Lib.hid ((BW.out.trans (hb2.mono hsz)).grown hg3 (Nat.le_trans hsz hb2.size) (fun k hk => (OW.out.lt k hk).1))
          have O3 := Lib.hid (show w3.ownsRow w.heap.size 3 1 v3 (a * m + (c + 1)) (intsV (rdTo m s.data.toList (a * m + (c + 1)))) by
            rw [← Nat.add_assoc, rdTo_succ, ← intsV_one, ← HX.out]; exact hown3)
          clear hown3 hg3 hb2
          go_wp2
          go_roundg (m - (c + 1))
          case measure => omega
          case rel => exact ⟨c + 1, by omega, by omega, by go_num, O3.out, B3.out⟩
        · have hcc : c = m := by omega
          have HC := Lib.hid (show a * m + c = (a + 1) * m by rw [Nat.succ_mul, hcc])
          clear hcc
          go_wp2
          go_roundg (m - (a + 1))
          case measure => omega
          case rel => exact ⟨a + 1, by omega, by omega, by go_num, by rw [← HC.out]; exact OW.out, BW.out⟩
    · have hcc : a = m := by omega
      subst hcc
      have hp : 0 < a * a := Nat.mul_pos hm hm
      obtain ⟨g, cap, hv⟩ : ∃ g cap, u5 = .slice (some ⟨g, 0, none⟩) (a * a) cap := by
        rcases OW0.out.2 with ⟨_, h0⟩ | ⟨g, cap, cur, hv, _⟩
        · omega
        · exact ⟨g, cap, hv⟩
      subst hv
      go_wp2
      go_ret
      exact ⟨g, cap, rfl, OW0.out, BW0.out⟩

end Go.Proofs.Ytplligjoegjngaa
