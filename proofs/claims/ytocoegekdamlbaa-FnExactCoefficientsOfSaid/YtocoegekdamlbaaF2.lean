
/- The text of a ring: FormatRing. -/
import Derived.Test.YtocoegekdamlbaaF1
import Derived.Laws.IdiomStrings
namespace Go.Proofs.Ytocoegekdamlbaa
open Go.RowKit

def fmtL (m e : Nat) (S P : Nat → Nat) : List UInt8 := [dig e, 32] ++ rowsTo m S (m * m) ++ [32] ++ rowsTo m P (m * m)
noncomputable def fmtV (n o : Int) (X Y : List Int) : ByteArray := @ite _ (validB n o X Y = true) (Classical.propDecidable _) ⟨(fmtL n.toNat o.toNat (tabOf X) (tabOf Y)).toArray⟩ ⟨#[]⟩
theorem fmtV_yes {m e : Nat} {X Y : List Int} (h : validB m e X Y = true) : fmtV m e X Y = ⟨(fmtL m e (tabOf X) (tabOf Y)).toArray⟩ := @if_pos _ (Classical.propDecidable _) h _ _ _
theorem fmtV_no {n o : Int} {X Y : List Int} (h : ¬ validB n o X Y = true) : fmtV n o X Y = ⟨#[]⟩ := @if_neg _ (Classical.propDecidable _) h _ _ _
theorem ret_str {a b : ByteArray} (h : a = b) : Ending.returned (.string a) = .returned (.string b) := by rw [h]

/-- A literal slice of bytes owns its cells. -/
theorem own_literal {w : World} {base : Nat} {e : TypeId} (l : List Value) (hb : base ≤ w.heap.size) (hl : l.length ≤ maxLen) :
    (w.alloc (.cells l.toArray e)).ownsRow base e 1 (.slice (some ⟨w.heap.size, 0, none⟩) l.length l.length) l.length l :=
  ⟨by simp, .inr ⟨w.heap.size, l.length, l.toArray, rfl, hb, heap_alloc_new w _, Nat.le_refl _, hl, by simp, by simp⟩⟩
theorem conv_own {w : World} {D g n cap : Nat} {l : List UInt8} (h : w.ownsRow D 5 1 (.slice (some ⟨g, 0, none⟩) n cap) n (bytesV l)) :
    (convert 77 9 (.slice (some ⟨g, 0, none⟩) n cap)).run Try.prog w = .ok (.string ⟨l.toArray⟩) w := by
  have hn : l.length = n := by have := h.1; rw [bytesV_len, Nat.mul_one] at this; exact this
  subst hn
  refine run_convert_bytes_back w _ _ 5 _ cap l Try.underlying77 Try.underlying5 Try.underlying9 fun j hj => ?_
  have hadd : (⟨g, 0, none⟩ : Addr).add j = ⟨g, j, none⟩ := by unfold Addr.add; split <;> simp_all
  rw [hadd, h.cellAt j (by omega)]
  unfold bytesV
  rw [List.getElem?_map, List.getElem?_eq_getElem hj]; rfl

theorem space_own {w : World} {D n : Nat} {l : List UInt8} {v : Value} {e : TypeId} (h : w.ownsRow D e 1 v (n + 1) (bytesV l ++ [.int .u8 32])) : w.ownsRow D e 1 v (n + 1) (bytesV (l ++ [32])) := (bytesV_one l 32) ▸ h

attribute [local go_sem] dig_at

theorem slice_dig (t : Nat) (h : t < 16) : ({ data := #[48, 49, 50, 51, 52, 53, 54, 55, 56, 57, 97, 98, 99, 100, 101, 102] } : ByteArray).extract t (t + 1) = ⟨[dig t].toArray⟩ := by
  have g : ∀ t : Fin 16, ({ data := #[48, 49, 50, 51, 52, 53, 54, 55, 56, 57, 97, 98, 99, 100, 101, 102] } : ByteArray).extract t.val (t.val + 1) = ⟨[dig t.val].toArray⟩ := by decide
  exact g ⟨t, h⟩

theorem str_slash (l : List UInt8) {t : Nat} (h : t < 16) : Value.string (({ data := l.toArray } : ByteArray) ++ { data := #[47] } ++ ({ data := #[48, 49, 50, 51, 52, 53, 54, 55, 56, 57, 97, 98, 99, 100, 101, 102] } : ByteArray).extract t (t + 1)) = .string ⟨(l ++ [47] ++ [dig t]).toArray⟩ := by
  rw [slice_dig t h]
  rw [show ∀ a b : ByteArray, a = b → Value.string a = Value.string b from fun _ _ e => by rw [e]]
  apply ByteArray.ext
  simp [ByteArray.data_append]
theorem str_plain (l : List UInt8) {t : Nat} (h : t < 16) : Value.string (({ data := l.toArray } : ByteArray) ++ ({ data := #[48, 49, 50, 51, 52, 53, 54, 55, 56, 57, 97, 98, 99, 100, 101, 102] } : ByteArray).extract t (t + 1)) = .string ⟨(l ++ [] ++ [dig t]).toArray⟩ := by
  rw [slice_dig t h]
  congr 1
  apply ByteArray.ext
  simp [ByteArray.data_append]

theorem fmt_concat {m e : Nat} (S P : Nat → Nat) (h : e < 16) : ({ data := #[48, 49, 50, 51, 52, 53, 54, 55, 56, 57, 97, 98, 99, 100, 101, 102] } : ByteArray).extract e (e + 1) ++ { data := #[32] } ++ { data := (rowsTo m S (m * m)).toArray } ++ { data := #[32] } ++ { data := (rowsTo m P (m * m)).toArray } = ⟨(fmtL m e S P).toArray⟩ := by
  rw [slice_dig e h]
  apply ByteArray.ext
  simp [ByteArray.data_append, fmtL]

theorem below_of_eq {P : Program} {f : FuncId} {args : Array Value} {w : World} {v : Value} (h : Calls P f args w fun e w' => e = .returned v ∧ w = w') : Calls P f args w fun e w' => e = .returned v ∧ Below w.heap.size w w' :=
  h.mono fun _ _ ⟨he, hw⟩ => ⟨he, by subst hw; exact Below.refl _ _⟩

end Go.Proofs.Ytocoegekdamlbaa
