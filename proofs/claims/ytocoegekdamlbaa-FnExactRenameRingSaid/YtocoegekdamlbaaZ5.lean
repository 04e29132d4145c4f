
/- The numbers of a renaming, as the reading side tests them. -/
import Derived.Test.YtocoegekdamlbaaZ3
namespace Go.Proofs.Ytocoegekdamlbaa
open Go.RowKit
set_option maxRecDepth 100000

/-- The numbers that were met. -/
def seA (l : List Int) : Array Value := (Array.range 16).map fun i : Nat => .bool (decide ((i : Int) ∈ l))
theorem seA_size {l : List Int} : (seA l).size = 16 := by simp [seA]
theorem seA_get {l : List Int} {i : Nat} (h : i < 16) : (seA l)[i]? = some (.bool (decide ((i : Int) ∈ l))) := by
  unfold seA
  rw [Array.getElem?_map, Array.getElem?_range, if_pos h]; rfl
theorem seA_set {l : List Int} {k : Nat} : (seA l).setIfInBounds k (.bool true) = seA (l ++ [(k : Int)]) := by
  apply Array.ext
  · simp [seA]
  · intro i h1 h2
    have h16 : i < 16 := by rw [seA_size] at h2; exact h2
    rw [Array.getElem_setIfInBounds (by rw [seA_size]; exact h16)]
    simp only [seA, Array.getElem_map, Array.getElem_range, List.mem_append, List.mem_singleton]
    split
    · rename_i e
      subst e
      simp
    · rename_i e
      congr 2
      exact propext ⟨fun h => .inl h, fun h => h.elim id (fun h => absurd (by omega) e)⟩
theorem seA_nil : seA [] = #[.bool false, .bool false, .bool false, .bool false, .bool false, .bool false, .bool false, .bool false, .bool false, .bool false, .bool false, .bool false, .bool false, .bool false, .bool false, .bool false] := by
  unfold seA
  rw [show Array.range 16 = #[0, 1, 2, 3, 4, 5, 6, 7, 8, 9, 10, 11, 12, 13, 14, 15] from rfl]
  simp
theorem take_step {Z : List Int} {k : Nat} (hk : k < Z.length) : Z.take (k + 1) = Z.take k ++ [Z[k]?.getD 0] := by
  rw [List.take_add_one, List.getElem?_eq_getElem hk]; rfl
theorem nodup_step {Z : List Int} {k : Nat} (hk : k < Z.length) (h : (Z.take k).Nodup) (hm : Z[k]?.getD 0 ∉ Z.take k) : (Z.take (k + 1)).Nodup := by
  rw [take_step hk, List.nodup_append]
  exact ⟨h, by simp, fun a ha b hb e => hm (by rw [List.mem_singleton] at hb; rw [← hb, ← e]; exact ha)⟩
theorem nodup_break {Z : List Int} {k : Nat} (hk : k < Z.length) (hm : Z[k]?.getD 0 ∈ Z.take k) : ¬ Z.Nodup := fun h => by
  have h2 : (Z.take (k + 1)).Nodup := (List.take_sublist _ _).nodup h
  rw [take_step hk, List.nodup_append] at h2
  exact h2.2.2 _ hm _ (List.mem_singleton.2 rfl) rfl
theorem allB_mem {n : Int} {Z : List Int} : allB n Z = true ↔ ∀ x ∈ Z, 0 ≤ x ∧ x < n := by
  unfold allB
  rw [decide_eq_true_iff]
  constructor
  · intro h x hx
    obtain ⟨k, hk, rfl⟩ := List.getElem_of_mem hx
    have := h k hk
    rw [List.getElem?_eq_getElem hk] at this
    exact of_decide_eq_true this
  · intro h k hk
    exact inB_true (h _ (get_mem hk))
noncomputable def nmB (m : Nat) (Z : List Int) : Bool := @decide (NamesOk m Z) (Classical.propDecidable _)
section
variable {m : Nat} {Z : List Int}
theorem nmB_no (h : ¬ NamesOk m Z) : nmB m Z = false := @decide_eq_false _ (Classical.propDecidable _) h
theorem nmB_yes (h : NamesOk m Z) : nmB m Z = true := @decide_eq_true _ (Classical.propDecidable _) h
end

set_option maxHeartbeats 4000000 in
theorem l2Names_any (m : Nat) (F : Option Addr) (lf cf : Nat) (Z : List Int) (w : World) (hm : 1 ≤ m) (hm' : m ≤ 16) (hF : Ints w w.heap.size F lf Z) (hlf : lf ≤ 9223372036854775807) :
    Calls Try.prog 58 #[.int .i64 m, .slice F lf cf] w fun e' w' => e' = .returned (.bool (nmB m Z)) ∧ Below w.heap.size w w' := by
  have hZ := hF.1
  have HF := Lib.hid hF
  have HH := Lib.hid (show wrap64 ((m : Int) - 1) = hiOf m from rfl)
  clear hF
  by_cases hl : lf = m
  rotate_left
  · have hz := Lib.hid (nmB_no (m := m) (Z := Z) (fun h => hl (by rw [← hZ, h.length])))
    have tq : ((lf : Int) != (m : Int)) = true := by rw [bne_iff_ne]; omega
    go_enter Try.func58, Try.ntmps58
    go_wp2
    go_ret
    exact ⟨ret_bool hz.out.symm, Below.refl _ _⟩
  subst hl
  have tq : ((lf : Int) != (lf : Int)) = false := by simp
  have hhq : hiOf (lf : Int) = (lf : Int) - 1 := wrap_in (by omega) (by omega)
  cases he : elB (hiOf lf) Z
  · have hz := Lib.hid (nmB_no (m := lf) (Z := Z) (fun h => by
      have : elB (hiOf lf) Z = true := by
        rw [hhq, elB_allB]
        exact allB_mem.2 fun x hx => h.inr hx
      rw [he] at this; cases this))
    clear hhq
    go_enter Try.func58, Try.ntmps58
    go_wp2_with (go_at_call 50; (with_reducible refine (l1Elements_any _ _ _ _ _ Z _ _ HH.out HF.out hlf).mono ?_); rintro e3 w3 ⟨rfl, rfl⟩)
    go_ret
    exact ⟨ret_bool hz.out.symm, Below.refl _ _⟩
  have hall : ∀ x ∈ Z, 0 ≤ x ∧ x < (lf : Int) := allB_mem.1 (by rw [← elB_allB, ← hhq]; exact he)
  clear hhq
  obtain ⟨z, hz0⟩ : ∃ z, Z[0]?.getD 0 = z := ⟨_, rfl⟩
  obtain ⟨gb, off, rfl, hbb, hc0⟩ := HF.out.at_ (k := 0) (show 0 < lf by omega)
  rw [hz0, Nat.add_zero] at hc0
  have hlz : 0 < lf := hm
  by_cases hzz : z = 0
  rotate_left
  · have hz := Lib.hid (nmB_no (m := lf) (Z := Z) (fun h => hzz (by rw [← hz0, h.2])))
    have tz : (z != 0) = true := by rw [bne_iff_ne]; exact hzz
    clear hz0 hall
    go_enter Try.func58, Try.ntmps58
    go_wp2_with (go_at_call 50; (with_reducible refine (l1Elements_any _ _ _ _ _ Z _ _ HH.out HF.out hlf).mono ?_); rintro e3 w3 ⟨rfl, rfl⟩)
    go_ret
    exact ⟨ret_bool hz.out.symm, Below.refl _ _⟩
  subst hzz
  have tz : ((0 : Int) != 0) = false := by simp
  have HZ0 := Lib.hid hz0
  have HZL := Lib.hid hZ
  have HA := Lib.hid hall
  clear hz0 hall hZ
  go_enter Try.func58, Try.ntmps58
  go_upto_region 4 with (go_at_call 50; (with_reducible refine (l1Elements_any _ _ _ _ _ Z _ _ HH.out HF.out hlf).mono ?_); rintro e3 w3 ⟨rfl, rfl⟩)
  rw [← seA_nil]
  obtain ⟨W, hW⟩ : ∃ W, w.alloc (.cells (seA []) 67) = W := ⟨_, rfl⟩
  have k0 : Blk W w.heap.size 67 (seA []) := by subst hW; exact Blk.new w _ _
  have b0 : Below w.heap.size w W := by subst hW; exact (Below.refl _ _).alloc (Nat.le_refl _) _
  rw [hW]
  clear hW
  go_wp2_with (fail)
  have KW := Lib.hid k0
  have BW := Lib.hid b0
  have HF0 := Lib.hid HF.out
  clear k0 b0 hc0
  go_loopw [27] (fun i wr => ∃ k : Nat, k ≤ lf ∧ i = .int .i64 k ∧ Blk wr w.heap.size 67 (seA (Z.take k)) ∧ Below w.heap.size w wr ∧ (Z.take k).Nodup) (fun i _ => lf - (intOf i).toNat)
  case atStart => exact ⟨0, Nat.zero_le _, rfl, KW.out, BW.out, List.nodup_nil⟩
  case round =>
    obtain ⟨k, hk, rfl, hkb, hb, hn⟩ := hrel
    by_cases hlt : k < lf
    · obtain ⟨b', off', e', hbb', hc⟩ := (HF0.out.next hb).at_ hlt
      cases e'
      have hkZ : k < Z.length := by rw [HZL.out]; exact hlt
      obtain ⟨hz1, hz2⟩ := HA.out _ (get_mem hkZ)
      have htake := Lib.hid (take_step hkZ)
      obtain ⟨z, hzk⟩ : ∃ z, Z[k]?.getD 0 = z := ⟨_, rfl⟩
      have HZK := Lib.hid hzk
      rw [hzk] at hz1 hz2 hc
      obtain ⟨c, rfl⟩ := Int.eq_ofNat_of_zero_le hz1
      have hc16 : c < 16 := by omega
      have hx0 : (0 : Int) ≤ (c : Int) := by omega
      have hx1 : (c : Int) < 16 := by omega
      have hcs := (hkb.cell c).trans (seA_get hc16)
      have hfs := hkb.frozen c
      have KB := Lib.hid hkb
      have HB := Lib.hid hb
      have HN := Lib.hid hn
      clear hkb hb hn hzk
      by_cases hmem : (c : Int) ∈ Z.take k
      · rw [decide_eq_true hmem] at hcs
        have hz := Lib.hid (nmB_no (m := lf) (Z := Z) (fun h => nodup_break hkZ (by rw [HZK.out]; exact hmem) h.nodup))
        clear hmem
        go_wp2
        go_ret
        exact ⟨ret_bool hz.out.symm, HB.out⟩
      · rw [decide_eq_false hmem] at hcs
        have HM := Lib.hid hmem
        clear hmem
        go_wp2
        go_roundw
        case rel => exact ⟨k + 1, by omega, by go_num, by
          rw [htake.out, HZK.out, ← seA_set]
          exact KB.out.set_ c (.bool true), HB.out.setCell (p := ⟨w.heap.size, c, none⟩) (Nat.le_refl _) _, nodup_step hkZ HN.out (by rw [HZK.out]; exact HM.out)⟩
        case measure => simp [intOf]; omega
    · have hkk : k = lf := by omega
      subst hkk
      have hz := Lib.hid (nmB_yes (names_of_apart HZL.out HZ0.out (by
        have := hn
        rw [List.take_of_length_le (Nat.le_of_eq HZL.out)] at this
        exact this) HA.out))
      have HB := Lib.hid hb
      clear hkb hb hn
      go_wp2
      go_ret
      exact ⟨ret_bool hz.out.symm, HB.out⟩

end Go.Proofs.Ytocoegekdamlbaa
