/- The text of a ring: FormatRing. -/
import Derived.Test.YtplligjoegjngaaF1
import Derived.Laws.IdiomStrings
namespace Go.Proofs.Ytplligjoegjngaa
open Go.RowKit

def fmtL (m e : Nat) (S P : Nat → Nat) : List UInt8 := [dig e, 32] ++ rowsTo m S (m * m) ++ [32] ++ rowsTo m P (m * m)
noncomputable def fmtV (n o : Int) (X Y : List Int) : ByteArray := @ite _ (validB n o X Y = true) (Classical.propDecidable _) ⟨(fmtL n.toNat o.toNat (tabOf X) (tabOf Y)).toArray⟩ ⟨#[]⟩
theorem fmtV_yes {m e : Nat} {X Y : List Int} (h : validB m e X Y = true) : fmtV m e X Y = ⟨(fmtL m e (tabOf X) (tabOf Y)).toArray⟩ := @if_pos _ (Classical.propDecidable _) h _ _ _
theorem fmtV_no {n o : Int} {X Y : List Int} (h : ¬ validB n o X Y = true) : fmtV n o X Y = ⟨#[]⟩ := @if_neg _ (Classical.propDecidable _) h _ _ _
theorem ret_str {a b : ByteArray} (h : a = b) : Ending.returned (.string a) = .returned (.string b) := by rw [h]

/-- A literal slice of bytes owns its cells. -/
theorem own_literal {w : World} {base : Nat} {e : TypeId} (l : List Value) (hb : base ≤ w.heap.size) (hl : l.length ≤ maxLen) :
    (w.alloc (.cells l.toArray e)).ownsRow base e 1 (.slice (some ⟨w.heap.size, 0, none⟩) l.length l.length) l.length l :=
  ⟨by simp, .inr ⟨w.heap.size, l.length, l.toArray, rfl, hb, heap_alloc_new w _, Nat.le_refl _, hl, by simp, by simp⟩⟩
theorem conv_own {w : World} {D g n cap : Nat} {l : List UInt8} (h : w.ownsRow D 5 1 (.slice (some ⟨g, 0, none⟩) n cap) n (bytesV l)) :
    (convert 49 9 (.slice (some ⟨g, 0, none⟩) n cap)).run Try.prog w = .ok (.string ⟨l.toArray⟩) w := by
  have hn : l.length = n := by have := h.1; rw [bytesV_len, Nat.mul_one] at this; exact this
  subst hn
  refine run_convert_bytes_back w _ _ 5 _ cap l Try.underlying49 Try.underlying5 Try.underlying9 fun j hj => ?_
  have hadd : (⟨g, 0, none⟩ : Addr).add j = ⟨g, j, none⟩ := by unfold Addr.add; split <;> simp_all
  rw [hadd, h.cellAt j (by omega)]
  unfold bytesV
  rw [List.getElem?_map, List.getElem?_eq_getElem hj]; rfl

theorem space_own {w : World} {D n : Nat} {l : List UInt8} {v : Value} {e : TypeId} (h : w.ownsRow D e 1 v (n + 1) (bytesV l ++ [.int .u8 32])) : w.ownsRow D e 1 v (n + 1) (bytesV (l ++ [32])) := (bytesV_one l 32) ▸ h

attribute [local go_sem] dig_at

set_option maxHeartbeats 2000000 in
theorem format_any (n o : Int) (A B : Option Addr) (la ca lb cb : Nat) (X Y : List Int) (w : World) (hX : Ints w w.heap.size A la X) (hY : Ints w w.heap.size B lb Y) (hla : la ≤ 9223372036854775807) (hlb : lb ≤ 9223372036854775807) (hca : la ≤ ca) (hcb : lb ≤ cb) :
    Calls Try.prog 49 #[.agg #[.int .i64 n, .int .i64 o, .slice A la ca, .slice B lb cb]] w fun e w' => e = .returned (.string (fmtV n o X Y)) ∧ Below w.heap.size w w' := by
  cases hv : validB n o X Y
  · have hz := Lib.hid (fmtV_no (n := n) (o := o) (X := X) (Y := Y) (by rw [hv]; simp))
    have b0 : Below w.heap.size w (w.alloc (.cells #[.int .i64 n, .int .i64 o, .slice A la ca, .slice B lb cb] 24)) := (Below.refl _ _).alloc (Nat.le_refl _) _
    have HX := Lib.hid (hX.next b0)
    have HY := Lib.hid (hY.next b0)
    have B0 := Lib.hid b0
    clear hX hY b0
    go_enter Try.func49, Try.ntmps49
    go_wp2_with (go_at_call 47; refine (valid_any _ _ _ _ _ _ _ _ X Y _ HX.out HY.out hla hlb hca hcb).mono ?_; rintro e1 w1 ⟨rfl, hb1⟩)
    go_ret
    exact ⟨ret_str hz.out.symm, below_step B0.out hb1⟩
  · obtain ⟨m, e, b1, o1, b2, o2, rfl, rfl, rfl, rfl, hr, _, _, _, _, _⟩ := valid_data hv hX hY hca hcb
    have hz := Lib.hid (fmtV_yes hv)
    have hm := hr.hm
    have hm' := hr.hm'
    have he := hr.he
    have he16 : e < 16 := by omega
    have HLA := Lib.hid hr.hla
    have HLB := Lib.hid hr.hlb
    obtain ⟨W, hW⟩ : ∃ W, w.alloc (.cells #[.int .i64 m, .int .i64 e, .slice (some ⟨b1, o1, none⟩) la ca, .slice (some ⟨b2, o2, none⟩) lb cb] 24) = W := ⟨_, rfl⟩
    have k0 : Blk W w.heap.size 24 #[.int .i64 m, .int .i64 e, .slice (some ⟨b1, o1, none⟩) la ca, .slice (some ⟨b2, o2, none⟩) lb cb] := by
      subst hW; exact Blk.new w _ _
    have b0 : Below w.heap.size w W := by
      subst hW; exact (Below.refl _ _).alloc (Nat.le_refl _) _
    have hsW : W.heap.size = w.heap.size + 1 := by
      subst hW; simp
    have HX := Lib.hid (hX.next b0)
    have HY := Lib.hid (hY.next b0)
    have K := Lib.hid k0
    have R0 := Lib.hid (hr.next b0)
    have B0 := Lib.hid b0
    have HW := Lib.hid hW
    have HS := Lib.hid hsW
    obtain ⟨i0, hi, hz0, hz1, hz2⟩ := info_parts u8_info
    clear hX hY hr b0 hW k0 hsW
    go_enter Try.func49, Try.ntmps49
    go_wp2_with (fail)
    rw [HW.out]
    refine (valid_any _ _ _ _ _ _ _ _ X Y W HX.out HY.out hla hlb hca hcb).mono ?_
    rintro e1 w1 ⟨rfl, hb1⟩
    have K := Lib.hid (K.out.next hb1)
    have R1 := Lib.hid (R0.out.next hb1)
    have B1 := Lib.hid hb1
    have hs1 : W.heap.size ≤ w1.heap.size := hb1.size
    obtain ⟨d0, d1, d2, d3⟩ := blk4 (K.out.alloc (.cells #[.int .u8 ((dig e).toNat : Int), .int .u8 32] 5))
    obtain ⟨c0, c1, c2, c3⟩ := blk4 K.out
    clear hb1
    go_wp2_with (fail)
    obtain ⟨V, hV⟩ : ∃ V, w1.alloc (.cells #[.int .u8 ((dig e).toNat : Int), .int .u8 32] 5) = V := ⟨_, rfl⟩
    have hbV : Below w1.heap.size w1 V := by
      subst hV; exact (Below.refl _ _).alloc (Nat.le_refl _) _
    have hoV : V.ownsRow W.heap.size 5 1 (.slice (some ⟨w1.heap.size, 0, none⟩) 2 2) 2 (bytesV [dig e, 32]) := by
      subst hV; exact own_literal [.int .u8 ((dig e).toNat : Int), .int .u8 32] hs1 (by unfold maxLen; simp)
    rw [hV]
    clear hV d0 d1 d2 d3 c0 c1 c2 c3
    have K := Lib.hid (K.out.next hbV)
    have BV := Lib.hid (B1.out.trans (hbV.mono hs1))
    have hsV : W.heap.size ≤ V.heap.size := BV.out.size
    have OV := Lib.hid hoV
    clear hbV hoV
    refine (appendTable_any m e _ _ la ca lb cb b1 o1 la ca (tabOf X) _ 2 [dig e, 32] V W.heap.size hm hm' HLA.out hca (R0.out.ts.below BV.out (Nat.le_refl _)) hsV OV.out (by omega)).mono ?_
    rintro e2 w2 ⟨v2, n2, rfl, ow2, hb2⟩
    have K2 := Lib.hid (K.out.below hb2 (by have := HS.out; omega))
    have B2 := Lib.hid (BV.out.trans hb2)
    have hs2 : W.heap.size ≤ w2.heap.size := B2.out.size
    have hln := ow2.1
    rw [bytesV_len, List.length_append, Nat.mul_one] at hln
    have hrl := rows_len (m := m) (T := tabOf X) (Nat.le_refl m) hm'
    have hn2 : n2 ≤ 602 := by simp at hln; omega
    have O2 := Lib.hid ow2
    obtain ⟨c0, c1, c2, c3⟩ := blk4 K2.out
    clear ow2 hb2 hln hrl
    go_wp2_with (first
      | (at_builtin; refine wpList_append_own _ rfl _ _ 49 rfl W.heap.size 5 i0 (.int .u8 0) 1 1 Try.underlying49 hi hz0 hz1 hz2 rfl (by decide) _ _ _ rfl (O2.out.alloc _) ⟨w2.heap.size, 0, none⟩ 1 1 [.int .u8 32] rfl rfl (by intro j u hj; match j, hj with | 0, hj => simp at hj; subst hj; simp [Addr.add]) (by intro u hu; simp at hu; subst hu; rfl) (by unfold maxLen; omega) (by omega) (by simp; omega) ?_; intro v3 w3 hown3 hg3 _; have kp := append_keeps K2.out O2.out (by decide) hg3 hs2; have K3 := Lib.hid kp.1; have B3 := Lib.hid (B2.out.trans kp.2.1); have hs3 := kp.2.2; have O3 := Lib.hid (space_own hown3); clear hown3 hg3 kp c0 c1 c2 c3; obtain ⟨c0, c1, c2, c3⟩ := blk4 K3.out)
      | fail)
    refine (appendTable_any m e _ _ la ca lb cb b2 o2 lb cb (tabOf Y) _ (n2 + 1) ([dig e, 32] ++ rowsTo m (tabOf X) (m * m) ++ [32]) w3 W.heap.size hm hm' HLB.out hcb (R0.out.tp.below B3.out (Nat.le_refl _)) hs3 O3.out (by omega)).mono ?_
    rintro e4 w4 ⟨v4, n4, rfl, ow4, hb4⟩
    have hln := ow4.1
    rw [bytesV_len, Nat.mul_one] at hln
    have hpos : 0 < n4 := by simp at hln; omega
    obtain ⟨g, cap, hv4⟩ : ∃ g cap, v4 = .slice (some ⟨g, 0, none⟩) n4 cap := by
      rcases ow4.2 with ⟨_, h0⟩ | ⟨g, cap, cur, hv4, _⟩
      · omega
      · exact ⟨g, cap, hv4⟩
    subst hv4
    have hcv := conv_own ow4
    have B4 := Lib.hid (B3.out.trans hb4)
    clear ow4 hb4 hln
    go_wp2
    go_ret
    exact ⟨ret_str (by rw [hz.out]; simp [fmtL]), B0.out.trans (B4.out.mono B0.out.size)⟩

theorem slice_dig (t : Nat) (h : t < 16) : ({ data := #[48, 49, 50, 51, 52, 53, 54, 55, 56, 57, 97, 98, 99, 100, 101, 102] } : ByteArray).extract t (t + 1) = ⟨[dig t].toArray⟩ := by
  have g : ∀ t : Fin 16, ({ data := #[48, 49, 50, 51, 52, 53, 54, 55, 56, 57, 97, 98, 99, 100, 101, 102] } : ByteArray).extract t.val (t.val + 1) = ⟨[dig t.val].toArray⟩ := by decide
  exact g ⟨t, h⟩

theorem str_slash (l : List UInt8) {t : Nat} (h : t < 16) : Value.string (({ data := l.toArray } : ByteArray) ++ { data := #[47] } ++ ({ data := #[48, 49, 50, 51, 52, 53, 54, 55, 56, 57, 97, 98, 99, 100, 101, 102] } : ByteArray).extract t (t + 1)) = .string ⟨(l ++ [47] ++ [dig t]).toArray⟩ := by
  rw [slice_dig t h]
  rw [show ∀ a b : ByteArray, a = b → Value.string a = Value.string b from fun _ _ e => by rw [e]]
  apply ByteArray.ext
  simp [ByteArray.data_append]
theorem str_plain (l : List UInt8) {t : Nat} (h : t < 16) : Value.string (({ data := l.toArray } : ByteArray) ++ ({ data := #[48, 49, 50, 51, 52, 53, 54, 55, 56, 57, 97, 98, 99, 100, 101, 102] } : ByteArray).extract t (t + 1)) = .string ⟨(l ++ [] ++ [dig t]).toArray⟩ := by
  rw [slice_dig t h]
  congr 1
  apply ByteArray.ext
  simp [ByteArray.data_append]

set_option maxHeartbeats 2000000 in
theorem l1Rows_any (m b off len cap : Nat) (T : Nat → Nat) (w : World) (D : Nat) (hm : 1 ≤ m) (hm' : m ≤ 16) (hl : len = m * m) (hT : Tab w D b off m T) :
    Calls Try.prog 132 #[.int .i64 m, .slice (some ⟨b, off, none⟩) len cap] w fun e w' => e = .returned (.string ⟨(rowsTo m T (m * m)).toArray⟩) ∧ w = w' := by
  have HT := Lib.hid hT
  have HL := Lib.hid hl
  have hq : m * m ≤ 256 := Nat.mul_le_mul hm' hm'
  have hl2 : len ≤ 256 := by omega
  clear hT hl
  go_enter Try.func132, Try.ntmps132
  go_wp2
  go_loop [5, 10] (fun s i => ∃ k : Nat, k ≤ len ∧ i = .int .i64 k ∧ s = .string ⟨(rowsTo m T k).toArray⟩) (fun _ i => len - (intOf i).toNat)
  case atStart => exact ⟨0, Nat.zero_le _, rfl, rfl⟩
  case round =>
    obtain ⟨k, hk, rfl, rfl⟩ := hrel
    by_cases hlt : k < len
    · have hc := (HT.out.2 k (by have := HL.out; omega)).1
      have ht : T k < 16 := by have := (HT.out.2 k (by have := HL.out; omega)).2; omega
      have hr := rowsTo_len (m := m) (T := T) k
      have hs := Lib.hid (rowsTo_succ (m := m) (T := T) k)
      by_cases h0 : 0 < k
      · by_cases h1 : k % m = 0
        · have H1 := Lib.hid h1
          have t1 : (((k : Int) % (m : Int)) == 0) = true := by rw [beq_iff_eq]; omega
          clear h1
          go_wp2
          go_round
          case rel => exact ⟨k + 1, by omega, by go_num, by rw [hs.out, if_pos ⟨h0, H1.out⟩, str_slash _ ht]⟩
          case measure => simp [intOf]; omega
        · have H1 := Lib.hid h1
          have t1 : (((k : Int) % (m : Int)) == 0) = false := by rw [beq_eq_false_iff_ne]; omega
          clear h1
          go_wp2
          go_round
          case rel => exact ⟨k + 1, by omega, by go_num, by rw [hs.out, if_neg (fun g => H1.out g.2), str_plain _ ht]⟩
          case measure => simp [intOf]; omega
      · have t1 : decide (0 < (k : Int)) = false := by simp; omega
        go_wp2
        go_round
        case rel => exact ⟨k + 1, by omega, by go_num, by rw [hs.out, if_neg (fun g => h0 g.1), str_plain _ ht]⟩
        case measure => simp [intOf]; omega
    · go_wp2
      go_ret
      exact ⟨ret_str (by rw [show k = m * m by have := HL.out; omega]), rfl⟩

theorem fmt_concat {m e : Nat} (S P : Nat → Nat) (h : e < 16) : ({ data := #[48, 49, 50, 51, 52, 53, 54, 55, 56, 57, 97, 98, 99, 100, 101, 102] } : ByteArray).extract e (e + 1) ++ { data := #[32] } ++ { data := (rowsTo m S (m * m)).toArray } ++ { data := #[32] } ++ { data := (rowsTo m P (m * m)).toArray } = ⟨(fmtL m e S P).toArray⟩ := by
  rw [slice_dig e h]
  apply ByteArray.ext
  simp [ByteArray.data_append, fmtL]

theorem below_of_eq {P : Program} {f : FuncId} {args : Array Value} {w : World} {v : Value} (h : Calls P f args w fun e w' => e = .returned v ∧ w = w') : Calls P f args w fun e w' => e = .returned v ∧ Below w.heap.size w w' :=
  h.mono fun _ _ ⟨he, hw⟩ => ⟨he, by subst hw; exact Below.refl _ _⟩

set_option maxHeartbeats 2000000 in
theorem sformat_any (n o : Int) (A B : Option Addr) (la ca lb cb : Nat) (X Y : List Int) (w : World) (hX : Ints w w.heap.size A la X) (hY : Ints w w.heap.size B lb Y) (hla : la ≤ 9223372036854775807) (hlb : lb ≤ 9223372036854775807) (hca : la ≤ ca) (hcb : lb ≤ cb) :
    Calls Try.prog 65 #[.agg #[.int .i64 n, .int .i64 o, .slice A la ca, .slice B lb cb]] w fun e w' => e = .returned (.string (fmtV n o X Y)) ∧ Below w.heap.size w w' := by
  cases hv : validB n o X Y
  · have hz := Lib.hid (fmtV_no (n := n) (o := o) (X := X) (Y := Y) (by rw [hv]; simp))
    have b0 : Below w.heap.size w (w.alloc (.cells #[.int .i64 n, .int .i64 o, .slice A la ca, .slice B lb cb] 24)) := (Below.refl _ _).alloc (Nat.le_refl _) _
    have HX := Lib.hid (hX.next b0)
    have HY := Lib.hid (hY.next b0)
    have B0 := Lib.hid b0
    clear hX hY b0
    go_enter Try.func65, Try.ntmps65
    go_wp2_with (go_at_call 48; refine (specValid_any _ _ _ _ _ _ _ _ X Y _ HX.out HY.out hla hlb hca hcb).mono ?_; rintro e1 w1 ⟨rfl, hb1⟩)
    go_ret
    exact ⟨ret_str hz.out.symm, below_step B0.out hb1⟩
  · obtain ⟨m, e, b1, o1, b2, o2, rfl, rfl, rfl, rfl, hr, _, _, _, _, _⟩ := valid_data hv hX hY hca hcb
    have hz := Lib.hid (fmtV_yes hv)
    have hm := hr.hm
    have hm' := hr.hm'
    have he := hr.he
    have he16 : e < 16 := by omega
    have HLA := Lib.hid hr.hla
    have HLB := Lib.hid hr.hlb
    have hrs := rows_len (m := m) (T := tabOf X) (Nat.le_refl m) hm'
    have hrp := rows_len (m := m) (T := tabOf Y) (Nat.le_refl m) hm'
    obtain ⟨W, hW⟩ : ∃ W, w.alloc (.cells #[.int .i64 m, .int .i64 e, .slice (some ⟨b1, o1, none⟩) la ca, .slice (some ⟨b2, o2, none⟩) lb cb] 24) = W := ⟨_, rfl⟩
    have k0 : Blk W w.heap.size 24 #[.int .i64 m, .int .i64 e, .slice (some ⟨b1, o1, none⟩) la ca, .slice (some ⟨b2, o2, none⟩) lb cb] := by
      subst hW; exact Blk.new w _ _
    have b0 : Below w.heap.size w W := by
      subst hW; exact (Below.refl _ _).alloc (Nat.le_refl _) _
    have HX := Lib.hid (hX.next b0)
    have HY := Lib.hid (hY.next b0)
    have K := Lib.hid k0
    have R0 := Lib.hid (hr.next b0)
    have B0 := Lib.hid b0
    have HW := Lib.hid hW
    clear hX hY hr b0 hW k0
    go_enter Try.func65, Try.ntmps65
    go_wp2_with (fail)
    rw [HW.out]
    refine (specValid_any _ _ _ _ _ _ _ _ X Y W HX.out HY.out hla hlb hca hcb).mono ?_
    rintro e1 w1 ⟨rfl, hb1⟩
    have K := Lib.hid (K.out.next hb1)
    have R1 := Lib.hid (R0.out.next hb1)
    have B1 := Lib.hid (below_step B0.out hb1)
    obtain ⟨c0, c1, c2, c3⟩ := blk4 K.out
    clear hb1
    go_wp2_with (fail)
    refine wp_region_ext (by kernel_rfl) (by kernel_rfl) ?_
    repeat (go_big_quiet_step ((first
      | (go_at_call 132; ((with_reducible refine calls_ext (below_of_eq (l1Rows_any m b1 o1 la ca (tabOf X) _ _ hm hm' HLA.out (R1.out.ext _).ts)))))
      | (go_at_call 132; ((with_reducible refine calls_ext (below_of_eq (l1Rows_any m b2 o2 lb cb (tabOf Y) _ _ hm hm' HLB.out (R1.out.ext _).tp))))))))
    refine wpQuiet_nil ?_
    intro w2 hb2
    go_wp2
    go_ret
    exact ⟨ret_str (by rw [hz.out]; exact fmt_concat _ _ he16), below_step B1.out hb2⟩

end Go.Proofs.Ytplligjoegjngaa
