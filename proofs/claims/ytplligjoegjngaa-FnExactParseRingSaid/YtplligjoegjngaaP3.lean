/- The reading side's ways with bytes: l13Find, l1Digit, l1Table. -/
import Derived.Test.YtplligjoegjngaaP2
namespace Go.Proofs.Ytplligjoegjngaa
open Go.RowKit
set_option maxRecDepth 100000

theorem find_hit (c : UInt8) : ∀ (l : List UInt8) (k : Nat), l[k]? = some c → (∀ j, j < k → l[j]? ≠ some c) → Lib.indexByte l c = k
  | [], k, h, _ => by simp at h
  | b :: l, 0, h, _ => by
    simp at h
    subst h
    simp [Lib.indexByte]
  | b :: l, k + 1, h, hm => by
    have hb : b ≠ c := fun e => hm 0 (by omega) (by simp [e])
    have ih := find_hit c l k (by simpa using h) (fun j hj => by simpa using hm (j + 1) (by omega))
    have h1 : (b == c) = false := by rw [beq_eq_false_iff_ne]; exact hb
    have h2 : (Lib.indexByte l c == -1) = false := by rw [beq_eq_false_iff_ne, ih]; omega
    simp only [Lib.indexByte, h1, h2, Bool.false_eq_true, if_false]
    rw [ih]
    simp
theorem find_miss (c : UInt8) : ∀ (l : List UInt8), (∀ j, j < l.length → l[j]? ≠ some c) → Lib.indexByte l c = -1
  | [], _ => rfl
  | b :: l, hm => by
    have hb : b ≠ c := fun e => hm 0 (by simp) (by simp [e])
    have ih := find_miss c l (fun j hj => by simpa using hm (j + 1) (by simp; omega))
    have h1 : (b == c) = false := by rw [beq_eq_false_iff_ne]; exact hb
    simp [Lib.indexByte, h1, ih]

def NoByte (s : ByteArray) (c : UInt8) (k : Nat) : Prop := ∀ j, j < k → s.data.toList[j]? ≠ some c
theorem byte_some {s : ByteArray} {i : Nat} (h : i < s.size) : s.data.toList[i]? = some s[i] := by
  rw [List.getElem?_eq_getElem (by simpa using h)]; rfl

set_option maxHeartbeats 1000000 in
theorem l13Find_any (s : ByteArray) (c : UInt8) (w : World) (hs : s.size ≤ 9223372036854775807) :
    Calls Try.prog 105 #[.string s, .int .u8 (c.toNat : Int)] w fun e w' => e = .returned (.int .i64 (Lib.indexByte s.data.toList c)) ∧ w = w' := by
  go_enter Try.func105, Try.ntmps105
  go_wp2
  go_loop [5] (fun i => ∃ k : Nat, k ≤ s.size ∧ i = .int .i64 k ∧ NoByte s c k) (fun i => s.size - (intOf i).toNat)
  case atStart => exact ⟨0, Nat.zero_le _, rfl, fun j hj => absurd hj (by omega)⟩
  case round =>
    obtain ⟨k, hk, rfl, hup⟩ := hrel
    have HU := Lib.hid hup
    clear hup
    by_cases hlt : k < s.size
    · have HB := Lib.hid (byte_some hlt)
      by_cases he : s[k] = c
      · have HE := Lib.hid he
        have tt : (((s[k].toNat : Nat) : Int) == ((c.toNat : Nat) : Int)) = true := by rw [beq_iff_eq, he]
        clear he
        go_wp2
        go_ret
        exact ⟨ret_int (find_hit c _ k (by rw [HB.out, HE.out]) HU.out).symm, rfl⟩
      · have HE := Lib.hid he
        have tt : (((s[k].toNat : Nat) : Int) == ((c.toNat : Nat) : Int)) = false := by
          rw [beq_eq_false_iff_ne]
          intro h
          exact he (UInt8.toNat_inj.1 (by omega))
        clear he
        go_wp2
        go_round
        case rel => exact ⟨k + 1, by omega, by go_num, forall_succ HU.out (by rw [HB.out]; simpa using HE.out)⟩
        case measure => simp [intOf]; omega
    · go_wp2
      go_ret
      exact ⟨ret_int (find_miss c _ fun j hj => HU.out j (by simp at hj; omega)).symm, rfl⟩

theorem l1Digit_any (c : UInt8) (w : World) : Calls Try.prog 106 #[.int .u8 (c.toNat : Int)] w fun e w' => e = .returned (.int .i64 (digI c)) ∧ w = w' := by
  go_enter Try.func106, Try.ntmps106
  go_wp2_with (go_at_call 105; refine (l13Find_any _ c _ (by decide)).mono ?_; rintro e w' ⟨rfl, rfl⟩)
  go_ret
  exact ⟨rfl, rfl⟩

/-- The numbers of a text, slashes struck. -/
def tblL (l : List UInt8) : List Int := (l.filter (fun c => c != 47)).map digI
theorem tblL_snoc {l : List UInt8} {c : UInt8} : tblL (l ++ [c]) = tblL l ++ (if c = 47 then [] else [digI c]) := by
  unfold tblL
  rw [List.filter_append, List.map_append]
  by_cases h : c = 47 <;> simp [h]
theorem tblL_len (l : List UInt8) : (tblL l).length ≤ l.length := by
  unfold tblL
  rw [List.length_map]
  exact List.length_filter_le _ _
theorem take_snoc {s : ByteArray} {k : Nat} (h : k < s.size) : s.data.toList.take (k + 1) = s.data.toList.take k ++ [s[k]] := by
  rw [List.take_succ_eq_append_getElem (by simpa using h)]; rfl

theorem slice_of_own {w : World} {base n : Nat} {v : Value} {xs : List Int} (h : w.ownsRow base 3 1 v n (intsV xs)) : ∃ A cap, v = .slice A n cap ∧ n ≤ cap ∧ cap ≤ 9223372036854775807 ∧ Ints w w.heap.size A n xs := by
  have hl : xs.length = n := by have := h.1; simpa [intsV] using this
  rcases h.2 with ⟨hv, h0⟩ | ⟨g, cap, cur, hv, _, _, hc, hm, _⟩
  · have hn : n = 0 := by
      have h1 := h.1
      rw [h0] at h1
      simp at h1
      omega
    subst hn
    exact ⟨none, 0, hv, Nat.le_refl _, by omega, hl, fun h => absurd h (by omega)⟩
  · subst hv
    exact ⟨some ⟨g, 0, none⟩, cap, rfl, hc, hm, ints_of_own h hl⟩

set_option maxHeartbeats 2000000 in
theorem l1Table_any (s : ByteArray) (w : World) (hs : s.size ≤ 2097152) :
    Calls Try.prog 107 #[.string s] w fun e w' => ∃ A n cap, e = .returned (.slice A n cap) ∧ n ≤ cap ∧ cap ≤ 9223372036854775807 ∧ n ≤ s.size ∧ w'.ownsRow w.heap.size 3 1 (.slice A n cap) n (intsV (tblL s.data.toList)) ∧ Ints w' w'.heap.size A n (tblL s.data.toList) ∧ Below w.heap.size w w' := by
  obtain ⟨i0, hi, hz0, hz1, hz2⟩ := info_parts int_info
  go_enter Try.func107, Try.ntmps107
  go_wp2
  have O0 := Lib.hid (own_literal (w := w) (base := w.heap.size) (e := 3) [] (Nat.le_refl _) (by unfold maxLen; simp))
  have B0 := Lib.hid ((Below.refl w.heap.size w).alloc (Nat.le_refl _) (.cells #[] 3))
  go_loopg [3, 8] s.size (fun g vv i wr => ∃ k n : Nat, k ≤ s.size ∧ s.size ≤ k + g ∧ i = .int .i64 k ∧ wr.ownsRow w.heap.size 3 1 vv n (intsV (tblL (s.data.toList.take k))) ∧ Below w.heap.size w wr)
  case atStart => exact ⟨0, 0, Nat.zero_le _, by omega, rfl, O0.out, B0.out⟩
  case round =>
    obtain ⟨k, n, hk, hgk, rfl, hown, hbel⟩ := hrel
    have OW := Lib.hid hown
    have BW := Lib.hid hbel
    have hsz := hbel.size
    have hln := hown.1
    rw [show (intsV (tblL (s.data.toList.take k))).length = (tblL (s.data.toList.take k)).length by simp [intsV], Nat.mul_one] at hln
    have hnk : n ≤ k := by
      have h1 := tblL_len (s.data.toList.take k)
      have h2 : (s.data.toList.take k).length ≤ k := List.length_take_le _ _
      omega
    clear hown hbel hln
    by_cases hlt : k < s.size
    · have HT := Lib.hid (take_snoc hlt)
      by_cases he : s[k] = 47
      · have HE := Lib.hid he
        have tt : (((s[k].toNat : Nat) : Int) != 47) = false := by rw [bne_eq_false_iff_eq, he]; rfl
        clear he
        go_wp2
        go_roundg (s.size - (k + 1))
        case measure => omega
        case rel => exact ⟨k + 1, n, by omega, by omega, by go_num, by rw [HT.out, tblL_snoc, if_pos HE.out, List.append_nil]; exact OW.out, BW.out⟩
      · have HE := Lib.hid he
        have tt : (((s[k].toNat : Nat) : Int) != 47) = true := by
          rw [bne_iff_ne]
          intro h
          exact he (UInt8.toNat_inj.1 (by have : (47 : UInt8).toNat = 47 := rfl; omega))
        clear he
        go_wp2_with (first
          | (go_at_call 106; refine (l1Digit_any _ _).mono ?_; rintro e1 w2 ⟨rfl, rfl⟩)
          | (at_builtin; refine wpList_append_own _ rfl _ _ 22 rfl w.heap.size 3 i0 (.int .i64 0) 1 8 Try.underlying22 hi hz0 hz1 hz2 rfl (by decide) _ _ _ rfl (OW.out.alloc _) ⟨wr.heap.size, 0, none⟩ 1 1 [.int .i64 (digI s[k])] rfl rfl (by intro j u hj; match j, hj with | 0, hj => simp at hj; subst hj; simp [Addr.add]) (by intro u hu; simp at hu; subst hu; rfl) (by unfold maxLen; omega) (by omega) (by simp; omega) ?_; intro v3 w3 hown3 hg3 _))
        have hb2 : Below wr.heap.size wr (wr.alloc (.cells #[.int .i64 (digI s[k])] 3)) := (Below.refl _ _).alloc (Nat.le_refl _) _
        have B3 := Lib.hid ((BW.out.trans (hb2.mono hsz)).grown hg3 (Nat.le_trans hsz hb2.size) (fun k hk => (OW.out.lt k hk).1))
        have O3 := Lib.hid (show w3.ownsRow w.heap.size 3 1 v3 (n + 1) (intsV (tblL (s.data.toList.take (k + 1)))) by
          rw [HT.out, tblL_snoc, if_neg HE.out, ← intsV_one]; exact hown3)
        clear hown3 hg3 hb2
        go_wp2
        go_roundg (s.size - (k + 1))
        case measure => omega
        case rel => exact ⟨k + 1, n + 1, by omega, by omega, by go_num, O3.out, B3.out⟩
    · have hkk : s.data.toList.take k = s.data.toList := List.take_of_length_le (by simp; omega)
      have HK := Lib.hid hkk
      clear hkk
      obtain ⟨A, cap, hv, hn1, hn2, hx⟩ := slice_of_own OW.out
      subst hv
      go_wp2
      go_ret
      exact ⟨A, n, cap, rfl, hn1, hn2, Nat.le_trans hnk hk, by rw [← HK.out]; exact OW.out, by rw [← HK.out]; exact hx, BW.out⟩

end Go.Proofs.Ytplligjoegjngaa
