/- The text of a table: appendTable. -/
import Derived.Test.YtplligjoegjngaaB8
namespace Go.Proofs.Ytplligjoegjngaa
open Go.RowKit

/-- The digit of an element. -/
def dig (t : Nat) : UInt8 := #[48, 49, 50, 51, 52, 53, 54, 55, 56, 57, 97, 98, 99, 100, 101, 102].getD t 48
theorem dig_at (t : Nat) (h : t < 16) : ({ data := #[48, 49, 50, 51, 52, 53, 54, 55, 56, 57, 97, 98, 99, 100, 101, 102] } : ByteArray)[t]'h = dig t := by
  have g : ∀ t : Fin 16, (#[48, 49, 50, 51, 52, 53, 54, 55, 56, 57, 97, 98, 99, 100, 101, 102] : Array UInt8)[t.val]'t.isLt = dig t.val := by decide
  exact g ⟨t, h⟩
/-- The text of a table, as far as the entry k. -/
def rowsTo (m : Nat) (T : Nat → Nat) : Nat → List UInt8
  | 0 => []
  | k + 1 => rowsTo m T k ++ (if 0 < k ∧ k % m = 0 then [47] else []) ++ [dig (T k)]
theorem rowsTo_len {m : Nat} {T : Nat → Nat} : ∀ k, (rowsTo m T k).length ≤ 2 * k
  | 0 => Nat.le_refl _
  | k + 1 => by
    have := rowsTo_len (m := m) (T := T) k
    simp only [rowsTo, List.length_append, List.length_cons, List.length_nil]
    split <;> simp <;> omega
/-- .. within the row a, as far as its entry b. -/
def midTo (m : Nat) (T : Nat → Nat) (a b : Nat) : List UInt8 := rowsTo m T (a * m) ++ (if 0 < a then [47] else []) ++ (List.range b).map fun j => dig (T (a * m + j))
theorem mid_zero {m : Nat} {T : Nat → Nat} : midTo m T 0 0 = rowsTo m T (0 * m) := by simp [midTo]
theorem mid_none {m a : Nat} {T : Nat → Nat} (ha : ¬ 0 < a) : midTo m T a 0 = rowsTo m T (a * m) := by simp [midTo, ha]
theorem mid_slash {m a : Nat} {T : Nat → Nat} (ha : 0 < a) : midTo m T a 0 = rowsTo m T (a * m) ++ [47] := by simp [midTo, ha]
theorem mid_next {m a b : Nat} {T : Nat → Nat} : midTo m T a (b + 1) = midTo m T a b ++ [dig (T (a * m + b))] := by
  simp [midTo, List.range_succ]
theorem rowsTo_succ {m : Nat} {T : Nat → Nat} (k : Nat) : rowsTo m T (k + 1) = rowsTo m T k ++ (if 0 < k ∧ k % m = 0 then [47] else []) ++ [dig (T k)] := rfl
theorem mid_rows {m a : Nat} {T : Nat → Nat} (hm : 1 ≤ m) : ∀ b, b + 1 ≤ m → midTo m T a (b + 1) = rowsTo m T (a * m + b + 1)
  | 0, _ => by
    rw [mid_next, Nat.add_zero, rowsTo_succ]
    congr 1
    unfold midTo
    have : (0 < a * m ∧ a * m % m = 0) ↔ 0 < a := by
      constructor
      · rintro ⟨h, _⟩
        rcases Nat.eq_zero_or_pos a with h0 | h0
        · subst h0; simp at h
        · exact h0
      · intro h; exact ⟨Nat.mul_pos h hm, Nat.mul_mod_left _ _⟩
    by_cases h : 0 < a
    · rw [if_pos h, if_pos (this.2 h)]; simp
    · rw [if_neg h, if_neg (fun g => h (this.1 g))]; simp
  | b + 1, hb => by
    rw [mid_next, mid_rows hm b (by omega)]
    have : ¬ (0 < a * m + b + 1 ∧ (a * m + b + 1) % m = 0) := by
      rintro ⟨_, h⟩
      rw [show a * m + b + 1 = m * a + (b + 1) by rw [Nat.mul_comm]; omega, Nat.mul_add_mod, Nat.mod_eq_of_lt (by omega)] at h
      omega
    rw [show a * m + (b + 1) = a * m + b + 1 by omega, rowsTo_succ (a * m + b + 1), if_neg this]
    simp
theorem mid_full {m a : Nat} {T : Nat → Nat} (hm : 1 ≤ m) : midTo m T a m = rowsTo m T ((a + 1) * m) := by
  obtain ⟨b, rfl⟩ : ∃ b, m = b + 1 := ⟨m - 1, by omega⟩
  rw [mid_rows hm b (Nat.le_refl _), Nat.succ_mul]; rfl

def bytesV (l : List UInt8) : List Value := l.map fun c => .int .u8 (c.toNat : Int)
theorem bytesV_one (l : List UInt8) (c : UInt8) : bytesV l ++ [.int .u8 (c.toNat : Int)] = bytesV (l ++ [c]) := by simp [bytesV]
theorem bytesV_len (l : List UInt8) : (bytesV l).length = l.length := by simp [bytesV]
theorem u8_info : (Try.prog.info? 5).map (fun i => (i.zero, i.size, i.bytes)) = some (some (.int .u8 0), 1, 1) := by kernel_rfl

theorem Blk.grown {w w' : World} {g : Nat} {t : TypeId} {cs : Array Value} {row : Option Nat} (h : Blk w g t cs) (hb : w.grownBy w' row) (hg : some g ≠ row) : Blk w' g t cs := (hb.block g h.lt hg).trans h
theorem Blk.ne_ {w : World} {g g' : Nat} {t t' : TypeId} {cs cs' : Array Value} (h : Blk w g t cs) (h' : Blk w g' t' cs') (hne : t ≠ t') : g ≠ g' := by
  rintro rfl
  unfold Blk at h h'
  rw [h] at h'
  injection h' with h'
  injection h' with _ ht
  exact hne ht
theorem own_blk_ne {w : World} {g : Nat} {t : TypeId} {cs : Array Value} {base : Nat} {e : TypeId} {size n : Nat} {v : Value} {xs : List Value} (h : w.ownsRow base e size v n xs) (hg : Blk w g t cs) (hne : e ≠ t) : some g ≠ v.ownBlock := by
  rcases h.2 with ⟨rfl, _⟩ | ⟨g', cap, cur, rfl, _, hh, _⟩
  · simp [Value.ownBlock]
  · intro he
    have : g = g' := by simpa [Value.ownBlock] using he
    subst this
    exact Blk.ne_ (t := e) hh hg hne rfl
/-- What a step of an append leaves: a box of another type and old memory are as they were. -/
theorem append_keeps {w w1 : World} {o : Obj} {D g n : Nat} {e t : TypeId} {cs : Array Value} {v : Value} {xs : List Value} (hb : Blk w g t cs) (hown : w.ownsRow D e 1 v n xs) (hne : e ≠ t) (hg : (w.alloc o).grownBy w1 v.ownBlock) (hD : D ≤ w.heap.size) :
    Blk w1 g t cs ∧ Below D w w1 ∧ D ≤ w1.heap.size :=
  ⟨(hb.alloc o).grown hg (own_blk_ne (hown.alloc o) (hb.alloc o) hne), ((Below.refl _ _).alloc hD o).grown hg (by simp; omega) (fun k hk => (hown.lt k hk).1), Nat.le_trans hD (Nat.le_trans (by simp) hg.size)⟩

theorem none_own {w : World} {D n : Nat} {l r r' : List UInt8} {v : Value} {e : TypeId} (h : r = r') (hw : w.ownsRow D e 1 v n (bytesV (l ++ r'))) : w.ownsRow D e 1 v n (bytesV (l ++ r)) := by rw [h]; exact hw
theorem slash_own {w : World} {D m a n : Nat} {T : Nat → Nat} {l : List UInt8} {v : Value} {e : TypeId} (ha0 : 0 < a) (h : w.ownsRow D e 1 v (n + 1) (bytesV (l ++ rowsTo m T (a * m)) ++ [.int .u8 47])) : w.ownsRow D e 1 v (n + 1) (bytesV (l ++ midTo m T a 0)) := by
  rw [mid_slash ha0, ← List.append_assoc]
  exact (bytesV_one (l ++ rowsTo m T (a * m)) 47) ▸ h
theorem mid_len {m a b : Nat} {T : Nat → Nat} (ha : a < m) (hb : b ≤ m) (hm' : m ≤ 16) : (midTo m T a b).length ≤ 800 := by
  have h1 := rowsTo_len (m := m) (T := T) (a * m)
  have h2 : a * m ≤ 16 * 16 := Nat.mul_le_mul (by omega) hm'
  unfold midTo
  simp only [List.length_append, List.length_map, List.length_range]
  split <;> simp <;> omega

theorem rows_len {m a : Nat} {T : Nat → Nat} (ha : a ≤ m) (hm' : m ≤ 16) : (rowsTo m T (a * m)).length ≤ 600 := by
  have h1 := rowsTo_len (m := m) (T := T) (a * m)
  have h2 : a * m ≤ 16 * 16 := Nat.mul_le_mul (by omega) hm'
  omega
theorem own_none (v : Value) : v.ownBlock = none ∨ v.ownBlock ≠ none := by
  cases v.ownBlock <;> simp

set_option maxHeartbeats 2000000 in
set_option maxRecDepth 100000 in
theorem appendTable_any (m : Nat) (o : Int) (A B : Option Addr) (la ca lb cb : Nat) (b off len cap : Nat) (T : Nat → Nat) (v : Value) (n : Nat) (l : List UInt8) (w : World) (D : Nat) (hm : 1 ≤ m) (hm' : m ≤ 16) (hl : len = m * m) (hc : len ≤ cap)
    (hT : Tab w D b off m T) (hD : D ≤ w.heap.size) (hv : w.ownsRow D 5 1 v n (bytesV l)) (hn : n ≤ 2000) :
    Calls Try.prog 119 #[.agg #[.int .i64 m, .int .i64 o, .slice A la ca, .slice B lb cb], v, .slice (some ⟨b, off, none⟩) len cap] w fun e' w' =>
      ∃ v' n', e' = .returned v' ∧ w'.ownsRow D 5 1 v' n' (bytesV (l ++ rowsTo m T (m * m))) ∧ Below D w w' := by
  obtain ⟨i0, hi, hz0, hz1, hz2⟩ := info_parts u8_info
  have HT := Lib.hid hT
  have HL := Lib.hid hl
  have hn0 := hv.1
  rw [bytesV_len, Nat.mul_one] at hn0
  have HV := Lib.hid (hv.alloc (.cells #[.int .i64 m, .int .i64 o, .slice A la ca, .slice B lb cb] 24))
  have HB0 := Lib.hid ((Below.refl D w).alloc hD (.cells #[.int .i64 m, .int .i64 o, .slice A la ca, .slice B lb cb] 24))
  have HK0 := Lib.hid (Blk.new w 24 #[.int .i64 m, .int .i64 o, .slice A la ca, .slice B lb cb])
  clear hT hl hv
  go_enter Try.func119, Try.ntmps119
  go_wp2
  go_loopg [1, 12] m (fun g vv i wr => ∃ a n' : Nat, a ≤ m ∧ m ≤ a + g ∧ i = .int .i64 a ∧ n' ≤ n + 1024 ∧ wr.ownsRow D 5 1 vv n' (bytesV (l ++ rowsTo m T (a * m))) ∧ Below D w wr ∧ D ≤ wr.heap.size ∧ Blk wr w.heap.size 24 #[.int .i64 m, .int .i64 o, .slice A la ca, .slice B lb cb])
  case atStart => exact ⟨0, n, Nat.zero_le _, by omega, rfl, by omega, by simpa [rowsTo] using HV.out, HB0.out, by simp; omega, HK0.out⟩
  case round =>
    obtain ⟨a, n1, ha, hga, rfl, hn1', hown, hbel, hDr, hkk⟩ := hrel
    have OW0 := Lib.hid hown
    have BW0 := Lib.hid hbel
    have KK0 := Lib.hid hkk
    have hlen := hown.1
    rw [bytesV_len, List.length_append, Nat.mul_one] at hlen
    have hmid := rows_len (m := m) (T := T) ha hm'
    have hn1 : n1 ≤ n + 1000 := by omega
    clear hown hbel hkk hlen
    by_cases hlt : a < m
    · obtain ⟨w0, rfl⟩ : ∃ w0, w0 = wr := ⟨_, rfl⟩
      obtain ⟨g1, hg1⟩ : ∃ g1, g1 = gk := ⟨_, rfl⟩
      by_cases ha0 : 0 < a
      · obtain ⟨c0, c1, c2, c3⟩ := blk4 KK0.out
        go_wp2_with (first
          | (at_builtin; refine wpList_append_own _ rfl _ _ 49 rfl D 5 i0 (.int .u8 0) 1 1 Try.underlying49 hi hz0 hz1 hz2 rfl (by decide) _ _ _ rfl (OW0.out.alloc _) ⟨w0.heap.size, 0, none⟩ 1 1 [.int .u8 47] rfl rfl (by intro j u hj; match j, hj with | 0, hj => simp at hj; subst hj; first | (simp [Addr.add]; done) | (simp [Addr.add]; rw [dig_at _ ht16])) (by intro u hu; simp at hu; subst hu; rfl) (by unfold maxLen; omega) (by omega) (by simp; omega) ?_; intro v3 w3 hown3 hg3 _; have kp := append_keeps KK0.out OW0.out (by decide) hg3 hDr; have K2 := Lib.hid kp.1; have B2 := Lib.hid (BW0.out.trans kp.2.1); have hD2 := kp.2.2; have O2 := Lib.hid (slash_own ha0 hown3); clear hown3 hg3 kp c0 c1 c2 c3; obtain ⟨c0, c1, c2, c3⟩ := blk4 K2.out)
          | (go_at_call 149; refine (row_any _ _ _ _ _ _ _ _ _ _ _ _ _ _ hm hm' hlt HL.out hc).mono ?_; rintro e1 w1 ⟨rfl, hb1⟩; have OW1 := Lib.hid (O2.out.kept (Go.Proofs.Ytplligjoegjngaa.Below.grown_ hb1) (own_none _)); have BW1 := Lib.hid (B2.out.trans (hb1.mono hD2)); have KK1 := Lib.hid (K2.out.next hb1); have hD1 := Nat.le_trans hD2 hb1.size; clear hb1))
        have hn1 : n1 + 1 ≤ n + 1024 := by omega
        go_loopg [1, 25] m (fun g vv i wr => ∃ c n' : Nat, c ≤ m ∧ m ≤ c + g ∧ i = .int .i64 c ∧ n' ≤ n + 1024 ∧ wr.ownsRow D 5 1 vv n' (bytesV (l ++ midTo m T a c)) ∧ Below D w wr ∧ D ≤ wr.heap.size ∧ Blk wr w.heap.size 24 #[.int .i64 m, .int .i64 o, .slice A la ca, .slice B lb cb])
        case atStart => exact ⟨0, _, Nat.zero_le _, by omega, rfl, hn1, OW1.out, BW1.out, hD1, KK1.out⟩
        case round =>
          obtain ⟨c, n', hcm, hgc, rfl, hn', hown, hbel, hDr, hkk⟩ := hrel
          have OW := Lib.hid hown
          have BW := Lib.hid hbel
          have KK := Lib.hid hkk
          have hlen := hown.1
          rw [bytesV_len, List.length_append, Nat.mul_one] at hlen
          have hmid := mid_len (m := m) (T := T) (a := a) (b := c) hlt hcm hm'
          have hnn : n' ≤ n + 1000 := by omega
          clear hown hbel hkk hlen
          by_cases hlt2 : c < m
          · have hcell := (HT.out.below BW.out (Nat.le_refl _)).at_ hlt hlt2
            have ht16 : T (a * m + c) < 16 := by have := HT.out.lt hlt hlt2; omega
            go_wp2_with (at_builtin; refine wpList_append_own _ rfl _ _ 49 rfl D 5 i0 (.int .u8 0) 1 1 Try.underlying49 hi hz0 hz1 hz2 rfl (by decide) _ _ _ rfl (OW.out.alloc _) ⟨wr.heap.size, 0, none⟩ 1 1 [.int .u8 ((dig (T (a * m + c))).toNat : Int)] rfl rfl (by intro j u hj; match j, hj with | 0, hj => simp at hj; subst hj; first | (simp [Addr.add]; done) | (simp [Addr.add]; rw [dig_at _ ht16])) (by intro u hu; simp at hu; subst hu; rfl) (by unfold maxLen; omega) (by omega) (by simp; omega) ?_; intro v2 w2 hown2 hg2 _)
            have kp := append_keeps KK.out OW.out (by decide) hg2 hDr
            have K3 := Lib.hid kp.1
            have B3 := Lib.hid (BW.out.trans kp.2.1)
            have hD3 := kp.2.2
            have O3 := Lib.hid (show w2.ownsRow D 5 1 v2 (n' + 1) (bytesV (l ++ midTo m T a (c + 1))) by
              rw [mid_next, ← List.append_assoc, ← bytesV_one]; exact hown2)
            clear hown2 hg2 kp hcell
            go_wp2
            go_roundg (m - (c + 1))
            case measure => omega
            case rel => exact ⟨c + 1, n' + 1, by omega, by omega, by go_num, by omega, O3.out, B3.out, hD3, K3.out⟩
          · have hcc : c = m := by omega
            have HCC := Lib.hid hcc
            clear hcc
            go_wp2
            go_roundg (m - (a + 1))
            case measure => omega
            case rel => exact ⟨a + 1, n', by omega, by omega, by go_num, by omega, by rw [← mid_full hm, ← HCC.out]; rw [HCC.out] at OW; simpa [HCC.out] using OW.out, BW.out, hDr, KK.out⟩
      · have hms := Lib.hid (mid_none (m := m) (T := T) ha0)
        obtain ⟨c0, c1, c2, c3⟩ := blk4 KK0.out
        go_wp2_with (go_at_call 149; refine (row_any _ _ _ _ _ _ _ _ _ _ _ _ _ _ hm hm' hlt HL.out hc).mono ?_; rintro e1 w1 ⟨rfl, hb1⟩; have OW1 := Lib.hid (none_own hms.out (OW0.out.kept (Go.Proofs.Ytplligjoegjngaa.Below.grown_ hb1) (own_none _))); have BW1 := Lib.hid (BW0.out.trans (hb1.mono hDr)); have KK1 := Lib.hid (KK0.out.next hb1); have hD1 := Nat.le_trans hDr hb1.size; clear hb1)
        have hn1 : n1 ≤ n + 1024 := by omega
        go_loopg [1, 25] m (fun g vv i wr => ∃ c n' : Nat, c ≤ m ∧ m ≤ c + g ∧ i = .int .i64 c ∧ n' ≤ n + 1024 ∧ wr.ownsRow D 5 1 vv n' (bytesV (l ++ midTo m T a c)) ∧ Below D w wr ∧ D ≤ wr.heap.size ∧ Blk wr w.heap.size 24 #[.int .i64 m, .int .i64 o, .slice A la ca, .slice B lb cb])
        case atStart => exact ⟨0, _, Nat.zero_le _, by omega, rfl, hn1, OW1.out, BW1.out, hD1, KK1.out⟩
        case round =>
          obtain ⟨c, n', hcm, hgc, rfl, hn', hown, hbel, hDr, hkk⟩ := hrel
          have OW := Lib.hid hown
          have BW := Lib.hid hbel
          have KK := Lib.hid hkk
          have hlen := hown.1
          rw [bytesV_len, List.length_append, Nat.mul_one] at hlen
          have hmid := mid_len (m := m) (T := T) (a := a) (b := c) hlt hcm hm'
          have hnn : n' ≤ n + 1000 := by omega
          clear hown hbel hkk hlen
          by_cases hlt2 : c < m
          · have hcell := (HT.out.below BW.out (Nat.le_refl _)).at_ hlt hlt2
            have ht16 : T (a * m + c) < 16 := by have := HT.out.lt hlt hlt2; omega
            go_wp2_with (at_builtin; refine wpList_append_own _ rfl _ _ 49 rfl D 5 i0 (.int .u8 0) 1 1 Try.underlying49 hi hz0 hz1 hz2 rfl (by decide) _ _ _ rfl (OW.out.alloc _) ⟨wr.heap.size, 0, none⟩ 1 1 [.int .u8 ((dig (T (a * m + c))).toNat : Int)] rfl rfl (by intro j u hj; match j, hj with | 0, hj => simp at hj; subst hj; first | (simp [Addr.add]; done) | (simp [Addr.add]; rw [dig_at _ ht16])) (by intro u hu; simp at hu; subst hu; rfl) (by unfold maxLen; omega) (by omega) (by simp; omega) ?_; intro v2 w2 hown2 hg2 _)
            have kp := append_keeps KK.out OW.out (by decide) hg2 hDr
            have K3 := Lib.hid kp.1
            have B3 := Lib.hid (BW.out.trans kp.2.1)
            have hD3 := kp.2.2
            have O3 := Lib.hid (show w2.ownsRow D 5 1 v2 (n' + 1) (bytesV (l ++ midTo m T a (c + 1))) by
              rw [mid_next, ← List.append_assoc, ← bytesV_one]; exact hown2)
            clear hown2 hg2 kp hcell
            go_wp2
            go_roundg (m - (c + 1))
            case measure => omega
            case rel => exact ⟨c + 1, n' + 1, by omega, by omega, by go_num, by omega, O3.out, B3.out, hD3, K3.out⟩
          · have hcc : c = m := by omega
            have HCC := Lib.hid hcc
            clear hcc
            go_wp2
            go_roundg (m - (a + 1))
            case measure => omega
            case rel => exact ⟨a + 1, n', by omega, by omega, by go_num, by omega, by rw [← mid_full hm, ← HCC.out]; rw [HCC.out] at OW; simpa [HCC.out] using OW.out, BW.out, hDr, KK.out⟩
    · have hcc : a = m := by omega
      have HCC := Lib.hid hcc
      clear hcc
      go_wp2
      go_ret
      exact ⟨_, n1, rfl, by rw [← HCC.out]; simpa [HCC.out] using OW0.out, BW0.out⟩

end Go.Proofs.Ytplligjoegjngaa
