
import Derived.Test.YtlcpbdbdiahmjaaNL
import Derived.Test.YtlcpbdbdiahmjaaMD
/- What a drawn law's row is made of: bytes that came in. -/
namespace Go.Proofs.Ytlcpbdbdiahmjaa
open Go.ChangeShapes Go.WideShapes Go.ChangeAt Go.RowKit Go.Joins
set_option maxRecDepth 100000

theorem Try.cellsByte : Try.prog.cellsOf 5 = 1 := by kernel_rfl
theorem wf_byte {n : Int} (h : (Lit.int .u8 n).wf = true) : 0 ≤ n ∧ n < 256 := by
  have h1 : IntKind.u8.min = 0 := rfl
  have h2 : IntKind.u8.max = 255 := rfl
  simp only [Lit.wf, Bool.and_eq_true, decide_eq_true_eq] at h
  omega
section
variable {H : Type} {enc : TypeId × Value → H} {w : World}
theorem bytes_of_trod {fuel : Nat} {v : Value} {x : DataW H × List MemPlace} (h : DataW.trod enc Try.prog w 0 (fun _ => true) true fuel 22 [v] = some x) (hlt : ∀ y ∈ x.2, y.block < w.heap.size) :
    ∃ A len cap, v = .slice A len cap ∧ Byts w w.heap.size A len ∧ len ≤ cap ∧ cap ≤ 9223372036854775807 := by
  rcases open_ints Try.underlying22 Try.underlying5 Try.cellsByte h with ⟨hcs, _⟩ | ⟨a, len, cap, zs, hcs, _, hl, hm, hz, hx, hcell, hwf⟩
  · simp at hcs
    exact ⟨none, 0, 0, hcs, fun j hj => absurd hj (by omega), Nat.le_refl _, by omega⟩
  · simp at hcs
    simp only [if_true] at hz
    unfold maxLen at hm
    refine ⟨some a, len, cap, hcs, fun j hj => ?_, hl, by omega⟩
    obtain ⟨b, off, spot⟩ := a
    have hspot : spot = none := by simpa [Addr.add] using World.cell?_spot (hcell 0 (by omega))
    subst hspot
    have hp : MemPlace.cell b off ∈ x.2 := by
      rw [hx]
      exact MemPlace.mem_row.2 ⟨0, by omega, by simp⟩
    have hjz : j < zs.length := by omega
    have hc := hcell j hjz
    rw [add_plain, List.getD_eq_getElem?_getD, List.getElem?_eq_getElem hjz] at hc
    obtain ⟨w0, w1⟩ := wf_byte (hwf _ (List.getElem_mem hjz))
    obtain ⟨z, hz'⟩ := Int.eq_ofNat_of_zero_le w0
    refine ⟨b, off, z, rfl, hlt _ hp, by omega, ?_⟩
    rw [hc]
    simp only [Option.getD_some]
    rw [hz']
end

end Go.Proofs.Ytlcpbdbdiahmjaa

