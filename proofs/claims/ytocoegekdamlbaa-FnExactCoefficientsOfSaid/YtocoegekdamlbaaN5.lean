
/- KindsOf of both sides. -/
import Derived.Test.YtocoegekdamlbaaN4
import Derived.Test.YtocoegekdamlbaaF2
import Derived.Laws.BytesArg
namespace Go.Proofs.Ytocoegekdamlbaa
open Go.RowKit
set_option maxRecDepth 100000

theorem own_nextK {w w' : World} {base : Nat} {e : TypeId} {size : Nat} {v : Value} {n : Nat} {xs : List Value} (h : w.ownsRow base e size v n xs) (hb : Below w.heap.size w w') : w'.ownsRow base e size v n xs :=
  h.kept (Go.Proofs.Ytocoegekdamlbaa.Below.grown_ hb) (by
    rcases h.2 with ⟨rfl, _⟩ | ⟨g, cap, cur, rfl, _⟩
    · exact .inl rfl
    · exact .inr (by simp [Value.ownBlock]))

/-- The functions that test for the kinds. -/
def testsV (R : Value) : Array Value := #[.func (.func 98) #[R] #[], .func (.func 99) #[R] #[], .func (.func 100) #[R] #[], .func (.func 101) #[R] #[]]
theorem kindTests_any (n o : Int) (A B : Option Addr) (la ca lb cb : Nat) (w : World) :
    Calls Try.prog 81 #[.agg #[.int .i64 n, .int .i64 o, .slice A la ca, .slice B lb cb]] w fun e w' => ∃ g, e = .returned (.slice (some ⟨g, 0, none⟩) 4 4) ∧ w.heap.size ≤ g ∧
      Blk w' g 63 (testsV (.agg #[.int .i64 n, .int .i64 o, .slice A la ca, .slice B lb cb])) ∧ Below w.heap.size w w' := by
  go_enter Try.func81, Try.ntmps81
  go_wp2
  go_ret
  refine ⟨w.heap.size + 1, rfl, by omega, ?_, ((Below.refl _ _).alloc (Nat.le_refl _) _).alloc (by simp) _⟩
  have := Blk.new (w.alloc (.cells #[.int .i64 n, .int .i64 o, .slice A la ca, .slice B lb cb] 28)) 63 (testsV (.agg #[.int .i64 n, .int .i64 o, .slice A la ca, .slice B lb cb]))
  rw [World.size_alloc] at this
  exact this

theorem conv_nil (w : World) : (convert 77 9 (.slice none 0 0)).run Try.prog w = .ok (.string ⟨#[]⟩) w :=
  run_convert_bytes_nil _ _ _ Try.underlying77 Try.underlying5 0 0 _ Try.underlying9

/-- The letters of the kinds, up to a kind. -/
def letterB (k : Nat) : UInt8 := #[117, 100, 110, 105].getD k 0
def kindTo (m : Nat) (P : Nat → Nat) (e a : Nat) : Nat → List UInt8
  | 0 => []
  | k + 1 => kindTo m P e a k ++ (if kindB m P e k a = true then [letterB k] else [])
theorem kindTo_yes {m : Nat} {P : Nat → Nat} {e a k : Nat} (h : kindB m P e k a = true) : kindTo m P e a (k + 1) = kindTo m P e a k ++ [letterB k] := by
  show kindTo m P e a k ++ (if kindB m P e k a = true then [letterB k] else []) = _
  rw [if_pos h]
theorem kindTo_no {m : Nat} {P : Nat → Nat} {e a k : Nat} (h : kindB m P e k a = false) : kindTo m P e a (k + 1) = kindTo m P e a k := by
  show kindTo m P e a k ++ (if kindB m P e k a = true then [letterB k] else []) = _
  rw [if_neg (by rw [h]; simp), List.append_nil]
theorem kindTo_len {m : Nat} {P : Nat → Nat} {e a : Nat} : ∀ k, (kindTo m P e a k).length ≤ k
  | 0 => Nat.le_refl _
  | k + 1 => by
    have := kindTo_len (m := m) (P := P) (e := e) (a := a) k
    simp only [kindTo, List.length_append]
    split <;> simp <;> omega
theorem letter_cut (k : Nat) (h : k < 4) : ({ data := #[117, 100, 110, 105] } : ByteArray).extract k (k + 1) = ⟨[letterB k].toArray⟩ := by
  have g : ∀ t : Fin 4, ({ data := #[117, 100, 110, 105] } : ByteArray).extract t.val (t.val + 1) = ⟨[letterB t.val].toArray⟩ := by decide
  exact g ⟨k, h⟩
theorem str_letter (l : List UInt8) {k : Nat} (h : k < 4) : Value.string (({ data := l.toArray } : ByteArray) ++ ({ data := #[117, 100, 110, 105] } : ByteArray).extract k (k + 1)) = .string ⟨(l ++ [letterB k]).toArray⟩ := by
  rw [letter_cut k h]
  rw [show ∀ a b : ByteArray, a = b → Value.string a = Value.string b from fun _ _ e => by rw [e]]
  apply ByteArray.ext
  simp [ByteArray.data_append]
theorem letter_at (k : Nat) (h : k < 4) : ({ data := #[117, 100, 110, 105] } : ByteArray)[k]'h = letterB k := by
  have g : ∀ t : Fin 4, (#[117, 100, 110, 105] : Array UInt8)[t.val]'t.isLt = letterB t.val := by decide
  exact g ⟨k, h⟩

noncomputable def kindsV (n o : Int) (X Y : List Int) (a : Int) : ByteArray := @ite _ (validB n o X Y = true ∧ inB n a = true) (Classical.propDecidable _) ⟨(kindTo n.toNat (tabOf Y) o.toNat a.toNat 4).toArray⟩ ⟨#[45]⟩
theorem kindsV_no {n o a : Int} {X Y : List Int} (h : ¬ (validB n o X Y = true ∧ inB n a = true)) : kindsV n o X Y a = ⟨#[45]⟩ := @if_neg _ (Classical.propDecidable _) h _ _ _
theorem kindsV_yes {m e a : Nat} {X Y : List Int} (h : validB m e X Y = true) (ha : inB m a = true) : kindsV m e X Y a = ⟨(kindTo m (tabOf Y) e a 4).toArray⟩ := @if_pos _ (Classical.propDecidable _) ⟨h, ha⟩ _ _ _

set_option maxHeartbeats 4000000 in
theorem skinds_any (n o : Int) (A B : Option Addr) (la ca lb cb : Nat) (X Y : List Int) (a : Int) (w : World) (hX : Ints w w.heap.size A la X) (hY : Ints w w.heap.size B lb Y) (hla : la ≤ 9223372036854775807) (hlb : lb ≤ 9223372036854775807) (hca : la ≤ ca) (hcb : lb ≤ cb) :
    Calls Try.prog 46 #[.agg #[.int .i64 n, .int .i64 o, .slice A la ca, .slice B lb cb], .int .i64 a] w fun e' w' => e' = .returned (.string (kindsV n o X Y a)) ∧ Below w.heap.size w w' := by
  have HH := Lib.hid (show wrap64 (n - 1) = hiOf n from rfl)
  cases he : elB (hiOf n) [a]
  · have hz := Lib.hid (kindsV_no (n := n) (o := o) (X := X) (Y := Y) (a := a) (fun g => by have h1 := g.1; have h2 := g.2; simp [hi_valid h1, elB_one] at he; simp [he] at h2))
    have bA : Below w.heap.size w (w.alloc (.cells #[.int .i64 n, .int .i64 o, .slice A la ca, .slice B lb cb] 28)) := (Below.refl w.heap.size w).alloc (Nat.le_refl _) _
    have bB : Below w.heap.size w ((w.alloc (.cells #[.int .i64 n, .int .i64 o, .slice A la ca, .slice B lb cb] 28)).alloc (.cells #[.int .i64 a] 3)) := bA.alloc (by simp) _
    have k0 : Blk ((w.alloc (.cells #[.int .i64 n, .int .i64 o, .slice A la ca, .slice B lb cb] 28)).alloc (.cells #[.int .i64 a] 3)) w.heap.size 28 #[.int .i64 n, .int .i64 o, .slice A la ca, .slice B lb cb] := (Blk.new w _ _).alloc _
    have hE : Ints ((w.alloc (.cells #[.int .i64 n, .int .i64 o, .slice A la ca, .slice B lb cb] 28)).alloc (.cells #[.int .i64 a] 3)) (w.heap.size + 2) (some ⟨w.heap.size + 1, 0, none⟩) 1 [a] := by
      have := ints_one (w := w.alloc (.cells #[.int .i64 n, .int .i64 o, .slice A la ca, .slice B lb cb] 28)) (v := a) (T := 3)
      simpa using this
    obtain ⟨W, hW⟩ : ∃ W, (w.alloc (.cells #[.int .i64 n, .int .i64 o, .slice A la ca, .slice B lb cb] 28)).alloc (.cells #[.int .i64 a] 3) = W := ⟨_, rfl⟩
    rw [hW] at bB k0 hE
    have HB := Lib.hid bB
    have HE := Lib.hid hE
    have hs := k0.lt
    have c0 := k0.cell 0
    have c1 := k0.cell 1
    have c2 := k0.cell 2
    have c3 := k0.cell 3
    simp at c0 c1 c2 c3
    have H0X := Lib.hid (hX.next HB.out)
    have H0Y := Lib.hid (hY.next HB.out)
    have HW := Lib.hid hW
    clear hW hX hY bA bB k0 hE
    go_enter Try.func46, Try.ntmps46
    go_wp2_with (fail)
    rw [HW.out]
    have X0 := HB
    go_wp2_with (first
      | (go_at_call 50; ((with_reducible refine (l1Elements_any _ _ _ _ _ [a] _ _ HH.out HE.out (by omega)).mono ?_); rintro e51 w51 ⟨rfl, rfl⟩)))
    go_ret
    exact ⟨ret_str hz.out.symm, HB.out⟩
  · cases hv : validB n o X Y
    · have hz := Lib.hid (kindsV_no (n := n) (o := o) (X := X) (Y := Y) (a := a) (fun g => by have := g.1; rw [hv] at this; cases this))
      have bA : Below w.heap.size w (w.alloc (.cells #[.int .i64 n, .int .i64 o, .slice A la ca, .slice B lb cb] 28)) := (Below.refl w.heap.size w).alloc (Nat.le_refl _) _
      have bB : Below w.heap.size w ((w.alloc (.cells #[.int .i64 n, .int .i64 o, .slice A la ca, .slice B lb cb] 28)).alloc (.cells #[.int .i64 a] 3)) := bA.alloc (by simp) _
      have k0 : Blk ((w.alloc (.cells #[.int .i64 n, .int .i64 o, .slice A la ca, .slice B lb cb] 28)).alloc (.cells #[.int .i64 a] 3)) w.heap.size 28 #[.int .i64 n, .int .i64 o, .slice A la ca, .slice B lb cb] := (Blk.new w _ _).alloc _
      have hE : Ints ((w.alloc (.cells #[.int .i64 n, .int .i64 o, .slice A la ca, .slice B lb cb] 28)).alloc (.cells #[.int .i64 a] 3)) (w.heap.size + 2) (some ⟨w.heap.size + 1, 0, none⟩) 1 [a] := by
        have := ints_one (w := w.alloc (.cells #[.int .i64 n, .int .i64 o, .slice A la ca, .slice B lb cb] 28)) (v := a) (T := 3)
        simpa using this
      obtain ⟨W, hW⟩ : ∃ W, (w.alloc (.cells #[.int .i64 n, .int .i64 o, .slice A la ca, .slice B lb cb] 28)).alloc (.cells #[.int .i64 a] 3) = W := ⟨_, rfl⟩
      rw [hW] at bB k0 hE
      have HB := Lib.hid bB
      have HE := Lib.hid hE
      have hs := k0.lt
      have c0 := k0.cell 0
      have c1 := k0.cell 1
      have c2 := k0.cell 2
      have c3 := k0.cell 3
      simp at c0 c1 c2 c3
      have H0X := Lib.hid (hX.next HB.out)
      have H0Y := Lib.hid (hY.next HB.out)
      have HW := Lib.hid hW
      clear hW hX hY bA bB k0 hE
      go_enter Try.func46, Try.ntmps46
      go_wp2_with (fail)
      rw [HW.out]
      have X0 := HB
      go_wp2_with (first
        | (go_at_call 50; ((with_reducible refine (l1Elements_any _ _ _ _ _ [a] _ _ HH.out HE.out (by omega)).mono ?_); rintro e51 w51 ⟨rfl, rfl⟩))
        | (go_at_call 57; ((with_reducible refine (specValid_any _ _ _ _ _ _ _ _ X Y _ H0X.out H0Y.out hla hlb hca hcb).mono ?_); rintro e1 w1 ⟨rfl, hb1⟩; obtain ⟨d0, d1, d2, d3, hs1⟩ := box4_next hb1 (by omega) c0 c1 c2 c3; have X1 := Lib.hid (X0.out.trans (hb1.mono (by omega))); clear hb1)))
      go_ret
      exact ⟨ret_str hz.out.symm, X1.out⟩
    · have ha : inB n a = true := by have h9 := he; rw [hi_valid hv, elB_one] at h9; exact h9
      obtain ⟨m, e, b1, o1, b2, o2, rfl, rfl, rfl, rfl, hr, _, _, _, _, _⟩ := valid_data hv hX hY hca hcb
      have ha' := of_decide_eq_true ha
      obtain ⟨a, rfl⟩ := Int.eq_ofNat_of_zero_le ha'.1
      have la' : a < m := by omega
      have HR := Lib.hid hr
      clear hr
      have hz := Lib.hid (kindsV_yes hv ha)
      have bA : Below w.heap.size w (w.alloc (.cells #[.int .i64 m, .int .i64 e, .slice (some ⟨b1, o1, none⟩) la ca, .slice (some ⟨b2, o2, none⟩) lb cb] 28)) := (Below.refl w.heap.size w).alloc (Nat.le_refl _) _
      have bB : Below w.heap.size w ((w.alloc (.cells #[.int .i64 m, .int .i64 e, .slice (some ⟨b1, o1, none⟩) la ca, .slice (some ⟨b2, o2, none⟩) lb cb] 28)).alloc (.cells #[.int .i64 a] 3)) := bA.alloc (by simp) _
      have k0 : Blk ((w.alloc (.cells #[.int .i64 m, .int .i64 e, .slice (some ⟨b1, o1, none⟩) la ca, .slice (some ⟨b2, o2, none⟩) lb cb] 28)).alloc (.cells #[.int .i64 a] 3)) w.heap.size 28 #[.int .i64 m, .int .i64 e, .slice (some ⟨b1, o1, none⟩) la ca, .slice (some ⟨b2, o2, none⟩) lb cb] := (Blk.new w _ _).alloc _
      have hE : Ints ((w.alloc (.cells #[.int .i64 m, .int .i64 e, .slice (some ⟨b1, o1, none⟩) la ca, .slice (some ⟨b2, o2, none⟩) lb cb] 28)).alloc (.cells #[.int .i64 a] 3)) (w.heap.size + 2) (some ⟨w.heap.size + 1, 0, none⟩) 1 [a] := by
        have := ints_one (w := w.alloc (.cells #[.int .i64 m, .int .i64 e, .slice (some ⟨b1, o1, none⟩) la ca, .slice (some ⟨b2, o2, none⟩) lb cb] 28)) (v := a) (T := 3)
        simpa using this
      obtain ⟨W, hW⟩ : ∃ W, (w.alloc (.cells #[.int .i64 m, .int .i64 e, .slice (some ⟨b1, o1, none⟩) la ca, .slice (some ⟨b2, o2, none⟩) lb cb] 28)).alloc (.cells #[.int .i64 a] 3) = W := ⟨_, rfl⟩
      rw [hW] at bB k0 hE
      have HB := Lib.hid bB
      have HE := Lib.hid hE
      have hs := k0.lt
      have c0 := k0.cell 0
      have c1 := k0.cell 1
      have c2 := k0.cell 2
      have c3 := k0.cell 3
      simp at c0 c1 c2 c3
      have H0X := Lib.hid (hX.next HB.out)
      have H0Y := Lib.hid (hY.next HB.out)
      have HW := Lib.hid hW
      clear hW hX hY bA bB k0 hE
      have R0 := Lib.hid (HR.out.next HB.out)
      go_enter Try.func46, Try.ntmps46
      go_wp2_with (fail)
      rw [HW.out]
      have X0 := HB
      go_wp2_with (first
        | (go_at_call 50; ((with_reducible refine (l1Elements_any _ _ _ _ _ [(a : Int)] _ _ HH.out HE.out (by omega)).mono ?_); rintro e51 w51 ⟨rfl, rfl⟩))
        | (go_at_call 57; ((with_reducible refine (specValid_any _ _ _ _ _ _ _ _ X Y _ H0X.out H0Y.out hla hlb hca hcb).mono ?_); rintro e1 w1 ⟨rfl, hb1⟩; obtain ⟨d0, d1, d2, d3, hs1⟩ := box4_next hb1 (by omega) c0 c1 c2 c3; have X1 := Lib.hid (X0.out.trans (hb1.mono (by omega))); have R1 := Lib.hid (R0.out.next hb1); clear hb1)))
      go_loopg [5, 18] 4 (fun g vs vi wr => ∃ k : Nat, k ≤ 4 ∧ 4 ≤ k + g ∧ vi = .int .i64 k ∧ vs = .string ⟨(kindTo m (tabOf Y) e a k).toArray⟩ ∧ Below w1.heap.size w1 wr)
      case atStart => exact ⟨0, Nat.zero_le _, by omega, rfl, rfl, Below.refl _ _⟩
      case round =>
        obtain ⟨k, hk, hg, rfl, rfl, hb⟩ := hrel
        obtain ⟨f0, f1, f2, f3, hs2⟩ := box4_next hb (by omega) d0 d1 d2 d3
        have X2 := Lib.hid (X1.out.trans (hb.mono (by omega)))
        have B2 := Lib.hid hb
        have R2 := Lib.hid (R1.out.next hb)
        have hln := kindTo_len (m := m) (P := tabOf Y) (e := e) (a := a) k
        clear hb
        by_cases hlt : k < 4
        · have hk3 : k ≤ 3 := by omega
          cases hq : kindB m (tabOf Y) e k a
          · have HQ := Lib.hid hq
            go_wp2_with (go_at_call 80; ((with_reducible refine (l3Is_any a k m e b1 o1 la ca b2 o2 lb cb (tabOf X) (tabOf Y) _ R2.out la' hk3).mono ?_); rintro e3 w3 ⟨rfl, hb3⟩; have B3 := Lib.hid (B2.out.trans (hb3.mono hs2)); clear hb3))
            go_roundg (4 - (k + 1))
            case measure => omega
            case rel => exact ⟨k + 1, by omega, by omega, by go_num, by rw [kindTo_no HQ.out], B3.out⟩
          · have HQ := Lib.hid hq
            go_wp2_with (go_at_call 80; ((with_reducible refine (l3Is_any a k m e b1 o1 la ca b2 o2 lb cb (tabOf X) (tabOf Y) _ R2.out la' hk3).mono ?_); rintro e3 w3 ⟨rfl, hb3⟩; have B3 := Lib.hid (B2.out.trans (hb3.mono hs2)); clear hb3))
            go_roundg (4 - (k + 1))
            case measure => omega
            case rel => exact ⟨k + 1, by omega, by omega, by go_num, by rw [kindTo_yes HQ.out, str_letter _ hlt], B3.out⟩
        · have hkk : k = 4 := by omega
          subst hkk
          go_wp2
          go_ret
          exact ⟨ret_str hz.out.symm, X2.out⟩

attribute [local go_sem] letter_at

set_option maxHeartbeats 8000000 in
theorem kinds_any (n o : Int) (A B : Option Addr) (la ca lb cb : Nat) (X Y : List Int) (a : Int) (w : World) (hX : Ints w w.heap.size A la X) (hY : Ints w w.heap.size B lb Y) (hla : la ≤ 9223372036854775807) (hlb : lb ≤ 9223372036854775807) (hca : la ≤ ca) (hcb : lb ≤ cb) :
    Calls Try.prog 47 #[.agg #[.int .i64 n, .int .i64 o, .slice A la ca, .slice B lb cb], .int .i64 a] w fun e' w' => e' = .returned (.string (kindsV n o X Y a)) ∧ Below w.heap.size w w' := by
  cases hv : validB n o X Y
  · have hz := Lib.hid (kindsV_no (n := n) (o := o) (X := X) (Y := Y) (a := a) (fun g => by have := g.1; rw [hv] at this; cases this))
    obtain ⟨c0, c1, c2, c3, hs⟩ := box4_new w (.int .i64 n) (.int .i64 o) (.slice A la ca) (.slice B lb cb) 28
    obtain ⟨W, hW⟩ : ∃ W, w.alloc (.cells #[.int .i64 n, .int .i64 o, .slice A la ca, .slice B lb cb] 28) = W := ⟨_, rfl⟩
    have HB := Lib.hid (show Below w.heap.size w W by subst hW; exact (Below.refl w.heap.size w).alloc (Nat.le_refl _) _)
    have H0X := Lib.hid (hX.next HB.out)
    have H0Y := Lib.hid (hY.next HB.out)
    rw [hW] at c0 c1 c2 c3 hs
    have HW := Lib.hid hW
    clear hW hX hY
    go_enter Try.func47, Try.ntmps47
    go_wp2_with (fail)
    rw [HW.out]
    have X0 := HB
    go_wp2_with (first
      | (go_at_call 65; ((with_reducible refine (valid_any _ _ _ _ _ _ _ _ X Y _ H0X.out H0Y.out hla hlb hca hcb).mono ?_); rintro e1 w1 ⟨rfl, hb1⟩; obtain ⟨d0, d1, d2, d3, hs1⟩ := box4_next hb1 (by omega) c0 c1 c2 c3; have X1 := Lib.hid (X0.out.trans (hb1.mono (by omega))); clear hb1)))
    go_ret
    exact ⟨ret_str hz.out.symm, X1.out⟩
  · cases ha : inB n a
    · have hz := Lib.hid (kindsV_no (n := n) (o := o) (X := X) (Y := Y) (a := a) (fun g => by have := g.2; simp [ha] at this))
      obtain ⟨c0, c1, c2, c3, hs⟩ := box4_new w (.int .i64 n) (.int .i64 o) (.slice A la ca) (.slice B lb cb) 28
      obtain ⟨W, hW⟩ : ∃ W, w.alloc (.cells #[.int .i64 n, .int .i64 o, .slice A la ca, .slice B lb cb] 28) = W := ⟨_, rfl⟩
      have HB := Lib.hid (show Below w.heap.size w W by subst hW; exact (Below.refl w.heap.size w).alloc (Nat.le_refl _) _)
      have H0X := Lib.hid (hX.next HB.out)
      have H0Y := Lib.hid (hY.next HB.out)
      rw [hW] at c0 c1 c2 c3 hs
      have HW := Lib.hid hW
      clear hW hX hY
      go_enter Try.func47, Try.ntmps47
      go_wp2_with (fail)
      rw [HW.out]
      have X0 := HB
      go_wp2_with (first
        | (go_at_call 65; ((with_reducible refine (valid_any _ _ _ _ _ _ _ _ X Y _ H0X.out H0Y.out hla hlb hca hcb).mono ?_); rintro e1 w1 ⟨rfl, hb1⟩; obtain ⟨d0, d1, d2, d3, hs1⟩ := box4_next hb1 (by omega) c0 c1 c2 c3; have X1 := Lib.hid (X0.out.trans (hb1.mono (by omega))); clear hb1))
        | (go_at_call 66; ((with_reducible refine (has_any _ _ a _ _ _ _ _ _ _).mono ?_); rintro e2 w2 ⟨rfl, hb2⟩; obtain ⟨f0, f1, f2, f3, hs2⟩ := box4_next hb2 (by omega) d0 d1 d2 d3; have X2 := Lib.hid (X1.out.trans (hb2.mono (by omega))); clear hb2)))
      go_ret
      exact ⟨ret_str hz.out.symm, X2.out⟩
    · have ha0 := ha
      obtain ⟨m, e, b1, o1, b2, o2, rfl, rfl, rfl, rfl, hr, _, _, _, _, _⟩ := valid_data hv hX hY hca hcb
      have ha' := of_decide_eq_true ha
      obtain ⟨a, rfl⟩ := Int.eq_ofNat_of_zero_le ha'.1
      have la' : a < m := by omega
      have HR := Lib.hid hr
      clear hr
      have hz := Lib.hid (kindsV_yes hv ha)
      obtain ⟨c0, c1, c2, c3, hs⟩ := box4_new w (.int .i64 m) (.int .i64 e) (.slice (some ⟨b1, o1, none⟩) la ca) (.slice (some ⟨b2, o2, none⟩) lb cb) 28
      obtain ⟨W, hW⟩ : ∃ W, w.alloc (.cells #[.int .i64 m, .int .i64 e, .slice (some ⟨b1, o1, none⟩) la ca, .slice (some ⟨b2, o2, none⟩) lb cb] 28) = W := ⟨_, rfl⟩
      have HB := Lib.hid (show Below w.heap.size w W by subst hW; exact (Below.refl w.heap.size w).alloc (Nat.le_refl _) _)
      have H0X := Lib.hid (hX.next HB.out)
      have H0Y := Lib.hid (hY.next HB.out)
      rw [hW] at c0 c1 c2 c3 hs
      have HW := Lib.hid hW
      clear hW hX hY
      have R0 := Lib.hid (HR.out.next HB.out)
      obtain ⟨i0, hi, hz0, hz1, hz2⟩ := info_parts u8_info
      go_enter Try.func47, Try.ntmps47
      go_wp2_with (fail)
      rw [HW.out]
      have X0 := HB
      go_wp2_with (first
        | (go_at_call 65; ((with_reducible refine (valid_any _ _ _ _ _ _ _ _ X Y _ H0X.out H0Y.out hla hlb hca hcb).mono ?_); rintro e1 w1 ⟨rfl, hb1⟩; obtain ⟨d0, d1, d2, d3, hs1⟩ := box4_next hb1 (by omega) c0 c1 c2 c3; have X1 := Lib.hid (X0.out.trans (hb1.mono (by omega))); have R1 := Lib.hid (R0.out.next hb1); clear hb1))
        | (go_at_call 66; ((with_reducible refine (has_any _ _ a _ _ _ _ _ _ _).mono ?_); rintro e2 w2 ⟨rfl, hb2⟩; obtain ⟨f0, f1, f2, f3, hs2⟩ := box4_next hb2 (by omega) d0 d1 d2 d3; have X2 := Lib.hid (X1.out.trans (hb2.mono (by omega))); have R2 := Lib.hid (R1.out.next hb2); clear hb2))
        | (go_at_call 81; ((with_reducible refine (kindTests_any _ _ _ _ _ _ _ _ w2).mono ?_); rintro e3 w3 ⟨tg, rfl, htg, hblk, hb3⟩; obtain ⟨q0, q1, q2, q3, hs3⟩ := box4_next hb3 (by omega) f0 f1 f2 f3; have X3 := Lib.hid (X2.out.trans (hb3.mono (by omega))); have R3 := Lib.hid (R2.out.next hb3); have KB := Lib.hid hblk; have htl := hblk.lt; clear hb3 hblk)))
      have O0 := Lib.hid (show w3.ownsRow w3.heap.size 5 1 (.slice none 0 0) 0 (bytesV (kindTo m (tabOf Y) e a 0)) from World.ownsRow_nil _ _ _ _)
      go_loopg [5, 20] 4 (fun g vs vi wr => ∃ k n1 : Nat, k ≤ 4 ∧ 4 ≤ k + g ∧ vi = .int .i64 k ∧ n1 ≤ k ∧ wr.ownsRow w3.heap.size 5 1 vs n1 (bytesV (kindTo m (tabOf Y) e a k)) ∧ Below w3.heap.size w3 wr)
      case atStart => exact ⟨0, 0, Nat.zero_le _, by omega, rfl, Nat.le_refl _, O0.out, Below.refl _ _⟩
      case round =>
        obtain ⟨k, n1, hk, hg, rfl, hn1, hown, hb⟩ := hrel
        obtain ⟨p0, p1, p2, p3, hs4⟩ := box4_next hb (by omega) q0 q1 q2 q3
        have X4 := Lib.hid (X3.out.trans (hb.mono (by omega)))
        have B2 := Lib.hid hb
        have R2 := Lib.hid (R3.out.next hb)
        have OW := Lib.hid hown
        have K2 := Lib.hid (KB.out.below hb htl)
        have hs2 : w3.heap.size ≤ wr.heap.size := hb.size
        clear hb hown
        by_cases hlt : k < 4
        · have hck := K2.out.cell k
          rcases (show k = 0 ∨ k = 1 ∨ k = 2 ∨ k = 3 by omega) with rfl | rfl | rfl | rfl <;> simp [testsV] at hck
          · cases hq : kindB m (tabOf Y) e 0 a
            · have HQ := Lib.hid hq
              have tq : unitB m (tabOf Y) e a = false := hq
              go_wp2_with (go_at_call 98; ((with_reducible refine (isUnit_any a m e b1 o1 la ca b2 o2 lb cb (tabOf X) (tabOf Y) _ R2.out la').mono ?_); rintro e4 w4 ⟨rfl, hb4⟩; have B4 := Lib.hid (B2.out.trans (hb4.mono hs2)); have O4 := Lib.hid (own_nextK OW.out hb4); have hs4 := hb4.size; clear hb4))
              go_roundg 3
              case measure => omega
              case rel => exact ⟨1, n1, by omega, by omega, rfl, by omega, by rw [kindTo_no HQ.out]; exact O4.out, B4.out⟩
            · have HQ := Lib.hid hq
              have tq : unitB m (tabOf Y) e a = true := hq
              go_wp2_with (first
                | (go_at_call 98; ((with_reducible refine (isUnit_any a m e b1 o1 la ca b2 o2 lb cb (tabOf X) (tabOf Y) _ R2.out la').mono ?_); rintro e4 w4 ⟨rfl, hb4⟩; have B4 := Lib.hid (B2.out.trans (hb4.mono hs2)); have O4 := Lib.hid (own_nextK OW.out hb4); have hs4 := hb4.size; clear hb4))
                | (at_builtin; refine wpList_append_own _ rfl _ _ 77 rfl w3.heap.size 5 i0 (.int .u8 0) 1 1 Try.underlying77 hi hz0 hz1 hz2 rfl (by decide) _ _ _ rfl (O4.out.alloc _) ⟨w4.heap.size, 0, none⟩ 1 1 [.int .u8 ((letterB 0).toNat : Int)] rfl rfl (by intro j u hj; match j, hj with | 0, hj => simp at hj; subst hj; simp [Addr.add]) (by intro u hu; simp at hu; subst hu; rfl) (by unfold maxLen; omega) (by omega) (by simp; omega) ?_; intro v5 w5 hown5 hg5 _; have B5 := Lib.hid ((B4.out.alloc (Nat.le_trans hs2 hs4) _).grown hg5 (by simp; omega) (fun j hj => (O4.out.lt j hj).1)); have O5 := Lib.hid (show w5.ownsRow w3.heap.size 5 1 v5 (n1 + 1) (bytesV (kindTo m (tabOf Y) e a 1)) by rw [kindTo_yes HQ.out, ← bytesV_one]; exact hown5); clear hown5 hg5))
              go_roundg 3
              case measure => omega
              case rel => exact ⟨1, n1 + 1, by omega, by omega, rfl, by omega, O5.out, B5.out⟩
          · cases hq : kindB m (tabOf Y) e 1 a
            · have HQ := Lib.hid hq
              have tq : divB m (tabOf Y) a = false := hq
              go_wp2_with (go_at_call 99; ((with_reducible refine (isZeroDivisor_any a m e b1 o1 la ca b2 o2 lb cb (tabOf X) (tabOf Y) _ R2.out la').mono ?_); rintro e4 w4 ⟨rfl, hb4⟩; have B4 := Lib.hid (B2.out.trans (hb4.mono hs2)); have O4 := Lib.hid (own_nextK OW.out hb4); have hs4 := hb4.size; clear hb4))
              go_roundg 2
              case measure => omega
              case rel => exact ⟨2, n1, by omega, by omega, rfl, by omega, by rw [kindTo_no HQ.out]; exact O4.out, B4.out⟩
            · have HQ := Lib.hid hq
              have tq : divB m (tabOf Y) a = true := hq
              go_wp2_with (first
                | (go_at_call 99; ((with_reducible refine (isZeroDivisor_any a m e b1 o1 la ca b2 o2 lb cb (tabOf X) (tabOf Y) _ R2.out la').mono ?_); rintro e4 w4 ⟨rfl, hb4⟩; have B4 := Lib.hid (B2.out.trans (hb4.mono hs2)); have O4 := Lib.hid (own_nextK OW.out hb4); have hs4 := hb4.size; clear hb4))
                | (at_builtin; refine wpList_append_own _ rfl _ _ 77 rfl w3.heap.size 5 i0 (.int .u8 0) 1 1 Try.underlying77 hi hz0 hz1 hz2 rfl (by decide) _ _ _ rfl (O4.out.alloc _) ⟨w4.heap.size, 0, none⟩ 1 1 [.int .u8 ((letterB 1).toNat : Int)] rfl rfl (by intro j u hj; match j, hj with | 0, hj => simp at hj; subst hj; simp [Addr.add]) (by intro u hu; simp at hu; subst hu; rfl) (by unfold maxLen; omega) (by omega) (by simp; omega) ?_; intro v5 w5 hown5 hg5 _; have B5 := Lib.hid ((B4.out.alloc (Nat.le_trans hs2 hs4) _).grown hg5 (by simp; omega) (fun j hj => (O4.out.lt j hj).1)); have O5 := Lib.hid (show w5.ownsRow w3.heap.size 5 1 v5 (n1 + 1) (bytesV (kindTo m (tabOf Y) e a 2)) by rw [kindTo_yes HQ.out, ← bytesV_one]; exact hown5); clear hown5 hg5))
              go_roundg 2
              case measure => omega
              case rel => exact ⟨2, n1 + 1, by omega, by omega, rfl, by omega, O5.out, B5.out⟩
          · cases hq : kindB m (tabOf Y) e 2 a
            · have HQ := Lib.hid hq
              have tq : nilB m (tabOf Y) e a = false := hq
              go_wp2_with (go_at_call 100; ((with_reducible refine (isNilpotent_any a m e b1 o1 la ca b2 o2 lb cb (tabOf X) (tabOf Y) _ R2.out la').mono ?_); rintro e4 w4 ⟨rfl, hb4⟩; have B4 := Lib.hid (B2.out.trans (hb4.mono hs2)); have O4 := Lib.hid (own_nextK OW.out hb4); have hs4 := hb4.size; clear hb4))
              go_roundg 1
              case measure => omega
              case rel => exact ⟨3, n1, by omega, by omega, rfl, by omega, by rw [kindTo_no HQ.out]; exact O4.out, B4.out⟩
            · have HQ := Lib.hid hq
              have tq : nilB m (tabOf Y) e a = true := hq
              go_wp2_with (first
                | (go_at_call 100; ((with_reducible refine (isNilpotent_any a m e b1 o1 la ca b2 o2 lb cb (tabOf X) (tabOf Y) _ R2.out la').mono ?_); rintro e4 w4 ⟨rfl, hb4⟩; have B4 := Lib.hid (B2.out.trans (hb4.mono hs2)); have O4 := Lib.hid (own_nextK OW.out hb4); have hs4 := hb4.size; clear hb4))
                | (at_builtin; refine wpList_append_own _ rfl _ _ 77 rfl w3.heap.size 5 i0 (.int .u8 0) 1 1 Try.underlying77 hi hz0 hz1 hz2 rfl (by decide) _ _ _ rfl (O4.out.alloc _) ⟨w4.heap.size, 0, none⟩ 1 1 [.int .u8 ((letterB 2).toNat : Int)] rfl rfl (by intro j u hj; match j, hj with | 0, hj => simp at hj; subst hj; simp [Addr.add]) (by intro u hu; simp at hu; subst hu; rfl) (by unfold maxLen; omega) (by omega) (by simp; omega) ?_; intro v5 w5 hown5 hg5 _; have B5 := Lib.hid ((B4.out.alloc (Nat.le_trans hs2 hs4) _).grown hg5 (by simp; omega) (fun j hj => (O4.out.lt j hj).1)); have O5 := Lib.hid (show w5.ownsRow w3.heap.size 5 1 v5 (n1 + 1) (bytesV (kindTo m (tabOf Y) e a 3)) by rw [kindTo_yes HQ.out, ← bytesV_one]; exact hown5); clear hown5 hg5))
              go_roundg 1
              case measure => omega
              case rel => exact ⟨3, n1 + 1, by omega, by omega, rfl, by omega, O5.out, B5.out⟩
          · cases hq : kindB m (tabOf Y) e 3 a
            · have HQ := Lib.hid hq
              have tq : idemB m (tabOf Y) a = false := hq
              go_wp2_with (go_at_call 101; ((with_reducible refine (isIdempotent_any a m e b1 o1 la ca b2 o2 lb cb (tabOf X) (tabOf Y) _ R2.out la').mono ?_); rintro e4 w4 ⟨rfl, hb4⟩; have B4 := Lib.hid (B2.out.trans (hb4.mono hs2)); have O4 := Lib.hid (own_nextK OW.out hb4); have hs4 := hb4.size; clear hb4))
              go_roundg 0
              case measure => omega
              case rel => exact ⟨4, n1, by omega, by omega, rfl, by omega, by rw [kindTo_no HQ.out]; exact O4.out, B4.out⟩
            · have HQ := Lib.hid hq
              have tq : idemB m (tabOf Y) a = true := hq
              go_wp2_with (first
                | (go_at_call 101; ((with_reducible refine (isIdempotent_any a m e b1 o1 la ca b2 o2 lb cb (tabOf X) (tabOf Y) _ R2.out la').mono ?_); rintro e4 w4 ⟨rfl, hb4⟩; have B4 := Lib.hid (B2.out.trans (hb4.mono hs2)); have O4 := Lib.hid (own_nextK OW.out hb4); have hs4 := hb4.size; clear hb4))
                | (at_builtin; refine wpList_append_own _ rfl _ _ 77 rfl w3.heap.size 5 i0 (.int .u8 0) 1 1 Try.underlying77 hi hz0 hz1 hz2 rfl (by decide) _ _ _ rfl (O4.out.alloc _) ⟨w4.heap.size, 0, none⟩ 1 1 [.int .u8 ((letterB 3).toNat : Int)] rfl rfl (by intro j u hj; match j, hj with | 0, hj => simp at hj; subst hj; simp [Addr.add]) (by intro u hu; simp at hu; subst hu; rfl) (by unfold maxLen; omega) (by omega) (by simp; omega) ?_; intro v5 w5 hown5 hg5 _; have B5 := Lib.hid ((B4.out.alloc (Nat.le_trans hs2 hs4) _).grown hg5 (by simp; omega) (fun j hj => (O4.out.lt j hj).1)); have O5 := Lib.hid (show w5.ownsRow w3.heap.size 5 1 v5 (n1 + 1) (bytesV (kindTo m (tabOf Y) e a 4)) by rw [kindTo_yes HQ.out, ← bytesV_one]; exact hown5); clear hown5 hg5))
              go_roundg 0
              case measure => omega
              case rel => exact ⟨4, n1 + 1, by omega, by omega, rfl, by omega, O5.out, B5.out⟩
        · have hkk : k = 4 := by omega
          subst hkk
          have hln := OW.out.1
          rw [bytesV_len, Nat.mul_one] at hln
          rcases OW.out.2 with ⟨rfl, h0⟩ | ⟨gg, cap, cur, rfl, _⟩
          · have e0 : kindTo m (tabOf Y) e a 4 = [] := List.eq_nil_of_length_eq_zero (by omega)
            have E0 := Lib.hid e0
            clear e0
            have hcv := conv_nil wr
            go_wp2
            go_ret
            exact ⟨ret_str (by rw [hz.out, E0.out]), X4.out⟩
          · have hcv := conv_own OW.out
            go_wp2
            go_ret
            exact ⟨ret_str hz.out.symm, X4.out⟩

end Go.Proofs.Ytocoegekdamlbaa
