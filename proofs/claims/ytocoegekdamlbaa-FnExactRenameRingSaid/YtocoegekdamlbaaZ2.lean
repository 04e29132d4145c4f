
/- Renaming: numbers as a permutation; the methods of a renaming. -/
import Derived.Test.YtocoegekdamlbaaC5
import Derived.Test.YtocoegekdamlbaaG4
import Derived.Test.YtocoegekdamlbaaA4
import Derived.Deep.Cut
namespace Go.Proofs.Ytocoegekdamlbaa
open Go.RowKit
set_option maxRecDepth 100000

/-- Numbers that are told apart and lie in a list no longer than they are the list, in another order. -/
theorem perm_of_sub : ∀ (s l : List Int), s.Nodup → (∀ x ∈ s, x ∈ l) → l.length ≤ s.length → s.Perm l
  | [], l, _, _, h => by
    obtain rfl : l = [] := List.eq_nil_of_length_eq_zero (by simpa using h)
    exact List.Perm.refl _
  | x :: s, l, hn, hs, hl => by
    rw [List.nodup_cons] at hn
    have hx : x ∈ l := hs x (by simp)
    have hp : l.Perm (x :: l.erase x) := List.perm_cons_erase hx
    have hle : (l.erase x).length ≤ s.length := by
      have := hp.length_eq
      simp only [List.length_cons] at this hl
      omega
    have hsub : ∀ y ∈ s, y ∈ l.erase x := fun y hy => by
      have h1 : y ∈ x :: l.erase x := hp.subset (hs y (by simp [hy]))
      rcases List.mem_cons.1 h1 with h2 | h2
      · subst h2; exact absurd hy hn.1
      · exact h2
    exact ((perm_of_sub s _ hn.2 hsub hle).cons x).trans hp.symm

def rngI (m : Nat) : List Int := (List.range m).map fun k : Nat => (k : Int)
theorem rngI_length {m : Nat} : (rngI m).length = m := by simp [rngI]
theorem rngI_mem {m : Nat} {x : Int} : x ∈ rngI m ↔ ∃ k : Nat, k < m ∧ (k : Int) = x := by simp [rngI]
theorem rngI_nodup {m : Nat} : (rngI m).Nodup := by
  unfold rngI
  rw [List.nodup_iff_pairwise_ne, List.pairwise_map]
  refine (List.nodup_iff_pairwise_ne.1 List.nodup_range).imp ?_
  intro a b h e
  exact h (by omega)

/-- The numbers from 0 on, in an order that begins with 0. -/
def NamesOk (m : Nat) (Z : List Int) : Prop := Z.Perm (rngI m) ∧ Z[0]?.getD 0 = 0
theorem names_of_onto {m : Nat} {Z : List Int} (hl : Z.length = m) (h0 : Z[0]?.getD 0 = 0) (h : ∀ a : Nat, a < m → (a : Int) ∈ Z) : NamesOk m Z :=
  ⟨(perm_of_sub (rngI m) Z rngI_nodup (fun x hx => by obtain ⟨k, hk, rfl⟩ := rngI_mem.1 hx; exact h k hk) (by rw [rngI_length, hl]; omega)).symm, h0⟩
theorem names_of_apart {m : Nat} {Z : List Int} (hl : Z.length = m) (h0 : Z[0]?.getD 0 = 0) (hn : Z.Nodup) (h : ∀ x ∈ Z, 0 ≤ x ∧ x < m) : NamesOk m Z :=
  ⟨perm_of_sub Z (rngI m) hn (fun x hx => rngI_mem.2 ⟨x.toNat, by have := h x hx; omega, by have := h x hx; omega⟩) (by rw [rngI_length, hl]; omega), h0⟩
section
variable {m : Nat} {Z : List Int}
theorem NamesOk.length (h : NamesOk m Z) : Z.length = m := by rw [h.1.length_eq, rngI_length]
theorem NamesOk.onto (h : NamesOk m Z) {a : Nat} (ha : a < m) : (a : Int) ∈ Z := h.1.symm.subset (rngI_mem.2 ⟨a, ha, rfl⟩)
theorem NamesOk.nodup (h : NamesOk m Z) : Z.Nodup := h.1.symm.nodup rngI_nodup
theorem NamesOk.inr (h : NamesOk m Z) {x : Int} (hx : x ∈ Z) : 0 ≤ x ∧ x < m := by
  obtain ⟨k, hk, rfl⟩ := rngI_mem.1 (h.1.subset hx)
  omega
/-- The new number of an element. -/
def nu (Z : List Int) (k : Nat) : Nat := (Z[k]?.getD 0).toNat
/-- The element of a number. -/
def ro (Z : List Int) (a : Nat) : Nat := (idx Z a).toNat
theorem get_mem {Z : List Int} {k : Nat} (hk : k < Z.length) : Z[k]?.getD 0 ∈ Z := by
  rw [List.getElem?_eq_getElem hk]; exact List.getElem_mem _
theorem NamesOk.get (h : NamesOk m Z) {k : Nat} (hk : k < m) : Z[k]?.getD 0 = (nu Z k : Int) ∧ nu Z k < m := by
  have := h.inr (get_mem (show k < Z.length by rw [h.length]; exact hk))
  unfold nu
  omega
theorem idx_data {Z : List Int} {v : Int} (h : v ∈ Z) : ∃ k : Nat, idx Z v = k ∧ k < Z.length ∧ Z[k]?.getD 0 = v := by
  have h1 : Z.findIdx (· == v) < Z.length := List.findIdx_lt_length_of_exists ⟨v, h, by simp⟩
  refine ⟨Z.findIdx (· == v), ?_, h1, ?_⟩
  · unfold idx; rw [if_pos h1]
  · rw [List.getElem?_eq_getElem h1]
    have := List.findIdx_getElem (w := h1)
    simpa using this
theorem NamesOk.idx (h : NamesOk m Z) {a : Nat} (ha : a < m) : Go.Proofs.Ytocoegekdamlbaa.idx Z a = (ro Z a : Int) ∧ ro Z a < m ∧ nu Z (ro Z a) = a := by
  obtain ⟨k, h1, h2, h3⟩ := idx_data (h.onto ha)
  have : ro Z a = k := by unfold ro; rw [h1]; simp
  rw [this]
  exact ⟨h1, by rw [← h.length]; exact h2, by unfold nu; rw [h3]; simp⟩
theorem NamesOk.inj (h : NamesOk m Z) {j k : Nat} (hj : j < m) (hk : k < m) (e : nu Z j = nu Z k) : j = k := by
  have h1 := (h.get hj).1
  have h2 := (h.get hk).1
  have hn := h.nodup
  have lj : j < Z.length := by rw [h.length]; exact hj
  have lk : k < Z.length := by rw [h.length]; exact hk
  rw [List.getElem?_eq_getElem lj] at h1
  rw [List.getElem?_eq_getElem lk] at h2
  simp only [Option.getD_some] at h1 h2
  exact (List.getElem_inj hn).1 (by rw [h1, h2, e])
theorem NamesOk.back (h : NamesOk m Z) {k : Nat} (hk : k < m) : ro Z (nu Z k) = k := by
  obtain ⟨_, h2, h3⟩ := h.idx (h.get hk).2
  exact h.inj h2 hk h3
end

/-- A renaming as the program holds it. -/
abbrev rnV (n o : Int) (A B F : Option Addr) (la ca lb cb lf cf : Nat) : Array Value := #[.int .i64 n, .int .i64 o, .slice A la ca, .slice B lb cb, .slice F lf cf]
theorem blk5r {w : World} {g : Nat} {t : TypeId} {a b c d e : Value} (h : Blk w g t #[a, b, c, d, e]) : w.cell? ⟨g, 0, none⟩ = some a ∧ w.cell? ⟨g, 1, none⟩ = some b ∧ w.cell? ⟨g, 2, none⟩ = some c ∧ w.cell? ⟨g, 3, none⟩ = some d ∧ w.cell? ⟨g, 4, none⟩ = some e :=
  ⟨h.cell 0, h.cell 1, h.cell 2, h.cell 3, h.cell 4⟩

section
variable (n o : Int) (A B F : Option Addr) (la ca lb cb lf cf : Nat) (w : World)
theorem rnBox : ∃ W, w.alloc (.cells (rnV n o A B F la ca lb cb lf cf) 59) = W ∧ Blk W w.heap.size 59 (rnV n o A B F la ca lb cb lf cf) ∧ Below w.heap.size w W :=
  ⟨_, rfl, Blk.new w _ _, (Below.refl _ _).alloc (Nat.le_refl _) _⟩
theorem rnSize_any : Calls Try.prog 131 #[.agg (rnV n o A B F la ca lb cb lf cf)] w fun e' w' => e' = .returned (.int .i64 n) ∧ Below w.heap.size w w' := by
  obtain ⟨W, hW, k0, b0⟩ := rnBox n o A B F la ca lb cb lf cf w
  obtain ⟨c0, c1, c2, c3, c4⟩ := blk5r k0
  have HW := Lib.hid hW
  have B0 := Lib.hid b0
  clear hW b0 k0
  go_enter Try.func131, Try.ntmps131
  go_wp2_with (fail)
  rw [HW.out]
  go_wp2
  go_ret
  exact ⟨rfl, B0.out⟩
theorem rnOne_any : Calls Try.prog 129 #[.agg (rnV n o A B F la ca lb cb lf cf)] w fun e' w' => e' = .returned (.int .i64 o) ∧ Below w.heap.size w w' := by
  obtain ⟨W, hW, k0, b0⟩ := rnBox n o A B F la ca lb cb lf cf w
  obtain ⟨c0, c1, c2, c3, c4⟩ := blk5r k0
  have HW := Lib.hid hW
  have B0 := Lib.hid b0
  clear hW b0 k0
  go_enter Try.func129, Try.ntmps129
  go_wp2_with (fail)
  rw [HW.out]
  go_wp2
  go_ret
  exact ⟨rfl, B0.out⟩
theorem rnElement_any {Z : List Int} (v : Int) (hF : Ints w w.heap.size F lf Z) (hf : lf ≤ 9223372036854775807) : Calls Try.prog 127 #[.agg (rnV n o A B F la ca lb cb lf cf), .int .i64 v] w fun e' w' => e' = .returned (.int .i64 (idx Z v)) ∧ Below w.heap.size w w' := by
  obtain ⟨W, hW, k0, b0⟩ := rnBox n o A B F la ca lb cb lf cf w
  obtain ⟨c0, c1, c2, c3, c4⟩ := blk5r k0
  have HF := Lib.hid (hF.next b0)
  have HW := Lib.hid hW
  have B0 := Lib.hid b0
  clear hW b0 k0 hF
  go_enter Try.func127, Try.ntmps127
  go_wp2_with (fail)
  rw [HW.out]
  go_wp2_with (go_at_call 92; refine (index_any _ _ _ Z v _ _ HF.out hf).mono ?_; rintro e1 w1 ⟨rfl, rfl⟩)
  refine bodyPost_ret (fn := Try.f127) (a := ⟨_, _⟩) (results_tmp (t := 4) rfl _ _ _) rfl ?_
  exact ⟨rfl, B0.out⟩
theorem rnNumber_any {Z : List Int} (k : Nat) (hk : k < lf) (hF : Ints w w.heap.size F lf Z) : Calls Try.prog 128 #[.agg (rnV n o A B F la ca lb cb lf cf), .int .i64 k] w fun e' w' => e' = .returned (.int .i64 (Z[k]?.getD 0)) ∧ Below w.heap.size w w' := by
  obtain ⟨W, hW, k0, b0⟩ := rnBox n o A B F la ca lb cb lf cf w
  obtain ⟨c0, c1, c2, c3, c4⟩ := blk5r k0
  obtain ⟨b, off, rfl, hbb, hc⟩ := (hF.next b0).at_ hk
  obtain ⟨z, hz⟩ : ∃ z, Z[k]?.getD 0 = z := ⟨_, rfl⟩
  rw [hz] at hc ⊢
  have HW := Lib.hid hW
  have B0 := Lib.hid b0
  clear hW b0 k0 hF hz
  go_enter Try.func128, Try.ntmps128
  go_upto_region 1 with (fail)
  rw [HW.out]
  go_wp2
  go_ret
  exact ⟨rfl, B0.out⟩
end
section
variable (a b : Nat) (m e b1 o1 la ca b2 o2 lb cb : Nat) (F : Option Addr) (lf cf : Nat) (S P : Nat → Nat) (w : World)
theorem rnSum_any (hr : RingAt w m e b1 o1 la ca b2 o2 lb cb S P) (ha : a < m) (hb : b < m) : Calls Try.prog 132 #[.agg (rnV m e (some ⟨b1, o1, none⟩) (some ⟨b2, o2, none⟩) F la ca lb cb lf cf), .int .i64 a, .int .i64 b] w fun e' w' => e' = .returned (.int .i64 (S (a * m + b))) ∧ Below w.heap.size w w' := by
  obtain ⟨W, hW, k0, b0⟩ := rnBox m e (some ⟨b1, o1, none⟩) (some ⟨b2, o2, none⟩) F la ca lb cb lf cf w
  obtain ⟨c0, c1, c2, c3, c4⟩ := blk5r k0
  have HR := Lib.hid (hr.next b0)
  have HW := Lib.hid hW
  have B0 := Lib.hid b0
  clear hW b0 k0 hr
  go_enter Try.func132, Try.ntmps132
  go_wp2_with (fail)
  rw [HW.out]
  go_wp2_with (go_at_call 119; refine (sum_any a b m e b1 o1 la ca b2 o2 lb cb S P _ HR.out ha hb).mono ?_; rintro e1 w1 ⟨rfl, hb1⟩)
  go_ret
  exact ⟨rfl, below_step B0.out hb1⟩
theorem rnProduct_any (hr : RingAt w m e b1 o1 la ca b2 o2 lb cb S P) (ha : a < m) (hb : b < m) : Calls Try.prog 130 #[.agg (rnV m e (some ⟨b1, o1, none⟩) (some ⟨b2, o2, none⟩) F la ca lb cb lf cf), .int .i64 a, .int .i64 b] w fun e' w' => e' = .returned (.int .i64 (P (a * m + b))) ∧ Below w.heap.size w w' := by
  obtain ⟨W, hW, k0, b0⟩ := rnBox m e (some ⟨b1, o1, none⟩) (some ⟨b2, o2, none⟩) F la ca lb cb lf cf w
  obtain ⟨c0, c1, c2, c3, c4⟩ := blk5r k0
  have HR := Lib.hid (hr.next b0)
  have HW := Lib.hid hW
  have B0 := Lib.hid b0
  clear hW b0 k0 hr
  go_enter Try.func130, Try.ntmps130
  go_wp2_with (fail)
  rw [HW.out]
  go_wp2_with (go_at_call 74; refine (product_any a b m e b1 o1 la ca b2 o2 lb cb S P _ HR.out ha hb).mono ?_; rintro e1 w1 ⟨rfl, hb1⟩)
  go_ret
  exact ⟨rfl, below_step B0.out hb1⟩
end

theorem making_rn {m e b1 o1 la ca b2 o2 lb cb : Nat} {F : Option Addr} {lf cf : Nat} {S P : Nat → Nat} {Z : List Int} (w : World) (hr : RingAt w m e b1 o1 la ca b2 o2 lb cb S P) (hF : Ints w w.heap.size F lf Z) (hZ : NamesOk m Z) :
    Making w (.agg (rnV m e (some ⟨b1, o1, none⟩) (some ⟨b2, o2, none⟩) F la ca lb cb lf cf)) 131 129 127 128 132 130
      m (nu Z e) (fun a => .int .i64 (ro Z a : Nat)) (fun a b => .int .i64 (S (ro Z a * m + ro Z b) : Nat)) (fun a b => .int .i64 (P (ro Z a * m + ro Z b) : Nat)) (fun a b => nu Z (S (ro Z a * m + ro Z b))) (fun a b => nu Z (P (ro Z a * m + ro Z b))) (.int .i64 (e : Nat)) := by
  have hl : lf = m := by rw [← hF.1, hZ.length]
  subst hl
  have hm' := hr.hm'
  refine ⟨fun x h => rnSize_any _ _ _ _ _ _ _ _ _ _ _ x, fun x h => rnOne_any _ _ _ _ _ _ _ _ _ _ _ x, fun x h => ?_, fun x h a ha => ?_, fun x h a b ha hb => ?_, fun x h a b ha hb => ?_, fun x h a b ha hb => ?_, fun x h a b ha hb => ?_⟩
  · have := rnNumber_any lf e (some ⟨b1, o1, none⟩) (some ⟨b2, o2, none⟩) F la ca lb cb lf cf x e hr.he (hF.next h)
    rw [(hZ.get hr.he).1] at this
    exact this
  · have := rnElement_any lf e (some ⟨b1, o1, none⟩) (some ⟨b2, o2, none⟩) F la ca lb cb lf cf x (a : Int) (hF.next h) (by omega)
    rw [(hZ.idx ha).1] at this
    exact this
  · exact rnSum_any _ _ _ _ _ _ _ _ _ _ _ _ _ _ _ S P x (hr.next h) (hZ.idx ha).2.1 (hZ.idx hb).2.1
  · exact rnProduct_any _ _ _ _ _ _ _ _ _ _ _ _ _ _ _ S P x (hr.next h) (hZ.idx ha).2.1 (hZ.idx hb).2.1
  · have hs := hr.ts.lt (hZ.idx ha).2.1 (hZ.idx hb).2.1
    have := rnNumber_any lf e (some ⟨b1, o1, none⟩) (some ⟨b2, o2, none⟩) F la ca lb cb lf cf x _ hs (hF.next h)
    rw [(hZ.get hs).1] at this
    exact this
  · have hs := hr.tp.lt (hZ.idx ha).2.1 (hZ.idx hb).2.1
    have := rnNumber_any lf e (some ⟨b1, o1, none⟩) (some ⟨b2, o2, none⟩) F la ca lb cb lf cf x _ hs (hF.next h)
    rw [(hZ.get hs).1] at this
    exact this

end Go.Proofs.Ytocoegekdamlbaa
