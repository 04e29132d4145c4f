/- Texts of this seat in one: V1 V2 V3 V4 V5. -/
import Derived.Test.YtlcpbdbdiahmjaaMM
import Derived.Deep.Cut
import Derived.Test.YtlcpbdbdiahmjaaMC

/- The drawing side: a reader of bytes; pick. -/
namespace Go.Proofs.Ytlcpbdbdiahmjaa
open Go.RowKit

/-- All old memory but one block is as it was. -/
structure Wk (g : Nat) (w w' : World) : Prop where
  os : w'.os = w.os
  tape : w'.tape = w.tape
  output : w'.output = w.output
  size : w.heap.size ≤ w'.heap.size
  block : ∀ k, k < w.heap.size → k ≠ g → w'.heap[k]? = w.heap[k]?
theorem Wk.refl (g : Nat) (w : World) : Wk g w w := ⟨rfl, rfl, rfl, Nat.le_refl _, fun _ _ _ => rfl⟩
theorem Wk.trans {g : Nat} {a b c : World} (h : Wk g a b) (k : Wk g b c) : Wk g a c :=
  ⟨k.os.trans h.os, k.tape.trans h.tape, k.output.trans h.output, Nat.le_trans h.size k.size, fun i hi hg => (k.block i (Nat.lt_of_lt_of_le hi h.size) hg).trans (h.block i hi hg)⟩
theorem Below.wk {g : Nat} {w w' : World} (h : Below w.heap.size w w') : Wk g w w' := ⟨h.os, h.tape, h.output, h.size, fun k hk _ => h.block k hk⟩
theorem Wk.below {g B : Nat} {w w' : World} (h : Wk g w w') (hg : B ≤ g) (hB : B ≤ w.heap.size) : Below B w w' := ⟨h.os, h.tape, h.output, h.size, fun k hk => h.block k (by omega) (by omega)⟩
theorem Wk.cell {g : Nat} {w w' : World} (h : Wk g w w') {p : Addr} (hp : p.block < w.heap.size) (hg : p.block ≠ g) : w'.cell? p = w.cell? p := World.cell?_of_block (w := w) (h.block p.block hp hg)
theorem Wk.frozen {g : Nat} {w w' : World} (h : Wk g w w') {p : Addr} (hp : p.block < w.heap.size) (hg : p.block ≠ g) : w'.frozen? p = w.frozen? p := World.frozen?_of_block (w := w) (h.block p.block hp hg)
theorem Wk.drew {g : Nat} {w w' : World} (h : Wk g w w') : Wk g w w'.drew := h.trans (Below.wk (Below.refl _ _).drew)
theorem Wk.set_ {g : Nat} {w w' : World} (h : Wk g w w') (i : Nat) (u : Value) : Wk g w (w'.setCell ⟨g, i, none⟩ u) :=
  ⟨h.os, h.tape, h.output, by simpa [World.setCell] using h.size, fun k hk hg => (Below.heap_setCell w' ⟨g, i, none⟩ u k hg).trans (h.block k hk hg)⟩
theorem Blk.wk {g b : Nat} {w w' : World} {t : TypeId} {cs : Array Value} (h : Blk w b t cs) (hw : Wk g w w') (hg : b ≠ g) : Blk w' b t cs := (hw.block b h.lt hg).trans h

/-- The bytes that a slice leads to lie below a bound. -/
def Byts (w : World) (B : Nat) (A : Option Addr) (n : Nat) : Prop := ∀ j, j < n → ∃ b off x : Nat, A = some ⟨b, off, none⟩ ∧ b < B ∧ x < 256 ∧ w.cell? ⟨b, off + j, none⟩ = some (.int .u8 x)
/-- A reader at a block, which has read no more than so many bytes. -/
def Rdr (w : World) (g k : Nat) : Prop := ∃ (A : Option Addr) (n c p : Nat), Blk w g 87 #[.slice A n c, .int .i64 p] ∧ p ≤ k ∧ n ≤ 2097152 ∧ Byts w g A n
theorem Byts.cells {w w' : World} {B n : Nat} {A : Option Addr} (h : Byts w B A n) (hk : ∀ p : Addr, p.block < B → w'.cell? p = w.cell? p) : Byts w' B A n := fun j hj => by
  obtain ⟨b, off, x, h1, h2, h3, h4⟩ := h j hj
  exact ⟨b, off, x, h1, h2, h3, by rw [hk _ h2]; exact h4⟩
theorem Rdr.next {w w' : World} {g k : Nat} (h : Rdr w g k) (hb : Below w.heap.size w w') : Rdr w' g k := by
  obtain ⟨A, n, c, p, h1, h2, h3, h4⟩ := h
  exact ⟨A, n, c, p, h1.next hb, h2, h3, h4.cells fun q hq => hb.cell (Nat.lt_trans hq h1.lt)⟩
theorem Rdr.lt {w : World} {g k : Nat} (h : Rdr w g k) : g < w.heap.size := by
  obtain ⟨A, n, c, p, h1, _⟩ := h
  exact h1.lt
theorem Rdr.more {w : World} {g k k' : Nat} (h : Rdr w g k) (hk : k ≤ k') : Rdr w g k' := by
  obtain ⟨A, n, c, p, h1, h2, h3⟩ := h
  exact ⟨A, n, c, p, h1, Nat.le_trans h2 hk, h3⟩
theorem Byts.wk {w w' : World} {B n : Nat} {A : Option Addr} (h : Byts w B A n) (hw : Wk B w w') : Byts w' B A n := fun j hj => by
  obtain ⟨b, off, x, h1, h2, h3, h4⟩ := h j hj
  exact ⟨b, off, x, h1, h2, h3, by rw [hw.cell (block_lt_of_cell h4) (Nat.ne_of_lt h2)]; exact h4⟩

theorem xor_nat {Z D : Nat} (hZ : Z < 2 ^ 61) (hD : D < 2 ^ 61) : ∃ k : Nat, bits .xor .i64 (Z : Int) (D : Int) = k := by
  refine ⟨Z ^^^ D, ?_⟩
  have h1 : Z ^^^ D < 2 ^ 61 := Nat.xor_lt_two_pow hZ hD
  have h2 : (BitVec.ofInt 64 (Z : Int) ^^^ BitVec.ofInt 64 (D : Int)).toNat = Z ^^^ D := by
    rw [BitVec.toNat_xor]
    simp only [BitVec.ofInt_natCast, BitVec.toNat_ofNat]
    rw [Nat.mod_eq_of_lt (by omega), Nat.mod_eq_of_lt (by omega)]
  show IntKind.i64.wrap (((BitVec.ofInt 64 (Z : Int) ^^^ BitVec.ofInt 64 (D : Int)).toNat : Nat) : Int) = _
  rw [h2]
  exact IntWalk.i64_in _ (by omega)

set_option maxHeartbeats 4000000 in
set_option maxRecDepth 100000 in
theorem pick_any (g k : Nat) (N : Int) (w : World) (hr : Rdr w g k) (hk : k ≤ 1125899906842624) :
    Calls Try.prog 44 #[.pointer (some ⟨g, 0, none⟩), .int .i64 N] w fun e w' => ∃ x : Int, e = .returned (.int .i64 x) ∧ 0 ≤ x ∧ (x < N ∨ x = 0) ∧ Wk g w w' ∧ Rdr w' g (k + 1) := by
  obtain ⟨A, n, c, p, hB, hp, hn, hb⟩ := hr
  have c0 := hB.cell 0
  have c1 := hB.cell 1
  simp at c0 c1
  have f1 := hB.frozen 1
  have hp1 : IntKind.i64.wrap ((p : Int) + 1) = p + 1 := IntWalk.i64_in _ (by omega)
  obtain ⟨U, hU⟩ : ∃ U, w.setCell ⟨g, 1, none⟩ (.int .i64 (p + 1)) = U := ⟨_, rfl⟩
  have wU : Wk g w U := by subst hU; exact (Wk.refl g w).set_ 1 _
  have rU : Blk U g 87 #[.slice A n c, .int .i64 ((p + 1 : Nat) : Int)] := by subst hU; simpa using hB.set_ 1 (.int .i64 (p + 1))
  have bU := hb.wk wU
  have RU : Rdr U g (k + 1) := ⟨A, n, c, p + 1, rU, by omega, hn, bU⟩
  go_enter Try.func44, Try.ntmps44
  go_upto_region 2 with (fail)
  have d0 := rU.cell 0
  have d1 := rU.cell 1
  simp at d0 d1
  have hp2 : IntKind.i64.wrap ((p : Int) + 1 - 1) = p := by rw [show (p : Int) + 1 - 1 = p by omega]; exact IntWalk.i64_in _ (by omega)
  clear hU hB c0 c1 f1 hb rU
  have w0 := Lib.hid wU
  have r0 := Lib.hid RU
  clear wU RU
  by_cases hN : N < 1
  · have t1 : decide (N < 1) = true := by simpa using hN
    go_wp2_with (fail)
    go_ret
    exact ⟨0, rfl, by omega, by omega, w0.out, r0.out⟩
  have t1 : decide (N < 1) = false := by simpa using hN
  by_cases hn0 : n = 0
  · subst hn0
    go_wp2_with (fail)
    go_ret
    exact ⟨0, rfl, by omega, by omega, w0.out, r0.out⟩
  have t2 : ((n : Int) == 0) = false := by simp; omega
  by_cases hpn : p < n
  · have t3 : decide ((p : Int) < n) = true := by simp; omega
    obtain ⟨b, off, x, rfl, hbg, hx, hc⟩ := bU p hpn
    go_wp2_with (fail)
    go_ret
    have hN0 : (0 : Int) < N := by omega
    exact ⟨(x : Int) % N, rfl, Int.emod_nonneg _ (by omega), .inl (Int.emod_lt_of_pos _ hN0), w0.out, r0.out⟩
  have t3 : decide ((p : Int) < n) = false := by simp; omega
  have hnz : (0 : Int) < n := by omega
  obtain ⟨i, hi, hin⟩ : ∃ i : Nat, (p : Int) % n = i ∧ i < n := ⟨p % n, by simp, Nat.mod_lt _ (by omega)⟩
  obtain ⟨j, hj, hjn⟩ : ∃ j : Nat, ((p : Int) * 7 + 3) % n = j ∧ j < n := ⟨(p * 7 + 3) % n, by simp, Nat.mod_lt _ (by omega)⟩
  obtain ⟨q, hq, hqp⟩ : ∃ q : Nat, (p : Int) / n = q ∧ q ≤ p := ⟨p / n, by simp, Nat.div_le_self _ _⟩
  obtain ⟨b, off, x, rfl, hbg, hx, hc⟩ := bU i hin
  obtain ⟨b', off', y, e', _, hy, hc'⟩ := bU j hjn
  injection e' with e'
  injection e' with e1 e2
  subst e1
  subst e2
  have u1 : IntKind.i64.wrap ((p : Int) * 7) = p * 7 := IntWalk.i64_in _ (by omega)
  have u2 : IntKind.i64.wrap ((p : Int) * 7 + 3) = p * 7 + 3 := IntWalk.i64_in _ (by omega)
  have u3 : IntKind.i64.wrap ((x : Int) * 131) = x * 131 := IntWalk.i64_in _ (by omega)
  have u4 : IntKind.i64.wrap ((y : Int) * 1117) = y * 1117 := IntWalk.i64_in _ (by omega)
  have u5 : IntKind.i64.wrap ((x : Int) * 131 + y * 1117) = x * 131 + y * 1117 := IntWalk.i64_in _ (by omega)
  have u6 : IntKind.i64.wrap ((p : Int) * 29) = p * 29 := IntWalk.i64_in _ (by omega)
  have u7 : IntKind.i64.wrap ((x : Int) * 131 + y * 1117 + p * 29) = x * 131 + y * 1117 + p * 29 := IntWalk.i64_in _ (by omega)
  have u8 : IntKind.i64.wrap ((q : Int) * 53) = q * 53 := IntWalk.i64_in _ (by omega)
  have u9 : IntKind.i64.wrap ((x : Int) * 131 + y * 1117 + p * 29 + q * 53) = x * 131 + y * 1117 + p * 29 + q * 53 := IntWalk.i64_in _ (by omega)
  go_upto_region 7 with (fail)
  go_quiet (fail)
  obtain ⟨Z, hZ, hZ2⟩ : ∃ Z : Nat, (x : Int) * 131 + y * 1117 + p * 29 + q * 53 = Z ∧ Z < 2 ^ 61 := ⟨x * 131 + y * 1117 + p * 29 + q * 53, by push_cast; rfl, by omega⟩
  obtain ⟨D, hD, hD2⟩ : ∃ D : Nat, (Z : Int) / 64 = D ∧ D < 2 ^ 61 := ⟨Z / 64, by simp, by omega⟩
  rw [hZ]
  clear u1 u2 u3 u4 u5 u6 u7 u8 u9 hZ
  obtain ⟨V, hV⟩ : ∃ V, U.drewN nq = V := ⟨_, rfl⟩
  have w1 := Lib.hid (show Wk g w V by subst hV; exact w0.out.trans (Below.wk (below_drewN (Below.refl _ _) _)))
  have r1 := Lib.hid (show Rdr V g (k + 1) by subst hV; exact r0.out.next (below_drewN (Below.refl _ _) _))
  rw [hV]
  clear hV d0 d1 hc hc' bU
  obtain ⟨X, hX⟩ := xor_nat hZ2 hD2
  go_wp2_with (fail)
  go_ret
  have hN0 : (0 : Int) < N := by omega
  refine ⟨_, rfl, ?_, ?_, w1.out, r1.out⟩
  · first | exact Int.emod_nonneg _ (by omega) | exact Int.tmod_nonneg _ (by omega)
  · left
    first | exact Int.emod_lt_of_pos _ hN0 | exact Int.tmod_lt_of_pos _ hN0

end Go.Proofs.Ytlcpbdbdiahmjaa



/- The drawing side: num, of, l13Open. -/
namespace Go.Proofs.Ytlcpbdbdiahmjaa
open Go.RowKit

theorem Ints.wk {w w' : World} {B n g : Nat} {A : Option Addr} {xs : List Int} (h : Ints w B A n xs) (hw : Wk g w w') (hg : ∀ a, A = some a → a.block ≠ g) : Ints w' B A n xs := by
  refine ⟨h.1, fun h0 => ?_⟩
  obtain ⟨b, off, e, hb, hc⟩ := h.2 h0
  exact ⟨b, off, e, hb, fun j x hj => by rw [hw.cell (block_lt_of_cell (hc j x hj)) (hg ⟨b, off, none⟩ e)]; exact hc j x hj⟩

theorem get_some {xs : List Int} {n j : Nat} (h : xs.length = n) (hj : j < n) : xs[j]? = some (xs[j]?.getD 0) := by
  have : j < xs.length := by omega
  simp [this]

set_option maxHeartbeats 4000000 in
set_option maxRecDepth 100000 in
theorem num_any (g k : Nat) (A : Option Addr) (n c B : Nat) (xs : List Int) (w : World) (hr : Rdr w g k) (hk : k ≤ 1125899906842624) (hx : Ints w B A n xs) (hg : ∀ a, A = some a → a.block ≠ g) (hn : 1 ≤ n) (hn2 : n ≤ 1000000) :
    Calls Try.prog 60 #[.pointer (some ⟨g, 0, none⟩), .slice A n c] w fun e w' => ∃ j : Nat, j < n ∧ e = .returned (.int .i64 (xs[j]?.getD 0)) ∧ Wk g w w' ∧ Rdr w' g (k + 1) := by
  obtain ⟨b, off, rfl, hb, hc⟩ := hx.2 (by omega)
  go_enter Try.func60, Try.ntmps60
  go_wp2_with (go_at_call 44; refine (pick_any _ k _ _ hr hk).mono ?_; rintro e w' ⟨x, rfl, h0, h1, hw, hr'⟩; obtain ⟨j, rfl⟩ := Int.eq_ofNat_of_zero_le h0; have hj : j < n := (by omega); have hcj := (hw.cell (block_lt_of_cell (hc j _ (get_some hx.1 hj))) (hg ⟨b, off, none⟩ rfl)).trans (hc j _ (get_some hx.1 hj)); have hw := Lib.hid hw; have hr' := Lib.hid hr')
  go_ret
  exact ⟨j, hj, rfl, hw.out, hr'.out⟩

theorem Byts.le {w : World} {B n m : Nat} {A : Option Addr} (h : Byts w B A n) (hm : m ≤ n) : Byts w B A m := fun j hj => h j (by omega)
theorem rdr_new {w : World} {A : Option Addr} {n c : Nat} (h : Byts w w.heap.size A n) (hn : n ≤ 2097152) :
    Rdr (w.alloc (.cells #[.slice A n c, .int .i64 0] 87)) w.heap.size 0 :=
  ⟨A, n, c, 0, Blk.new w _ _, Nat.le_refl _, hn, h.cells fun p hp => World.cell?_alloc_lt w _ p hp⟩
set_option maxHeartbeats 4000000 in
set_option maxRecDepth 100000 in
theorem l13Open_any (A : Option Addr) (n c : Nat) (w : World) (hb : Byts w w.heap.size A n) (hn : n ≤ 2097152) (hc : n ≤ c) (hc2 : c ≤ 9223372036854775807) :
    Calls Try.prog 42 #[.slice A n c] w fun e w' => e = .returned (.pointer (some ⟨w.heap.size, 0, none⟩)) ∧ Below w.heap.size w w' ∧ Rdr w' w.heap.size 0 ∧ w.heap.size < w'.heap.size := by
  by_cases h : n > 2000
  · have t1 : decide ((n : Int) > 2000) = true := by simp; omega
    obtain ⟨b, off, x, rfl, hbg, hx, hcx⟩ := hb 0 (by omega)
    have hb' := hb.le (m := 2000) (by omega)
    have hc3 : (2000 : Int) ≤ c := by omega
    go_enter Try.func42, Try.ntmps42
    go_wp2_with (fail)
    trace_state
    go_ret
    exact ⟨rfl, (Below.refl _ _).alloc (Nat.le_refl _) _, rdr_new hb' (by omega), by simp⟩
  · have t1 : decide ((n : Int) > 2000) = false := by simp; omega
    go_enter Try.func42, Try.ntmps42
    go_wp2_with (fail)
    go_ret
    exact ⟨rfl, (Below.refl _ _).alloc (Nat.le_refl _) _, rdr_new hb (by omega), by simp⟩

end Go.Proofs.Ytlcpbdbdiahmjaa



/- The reading side's digits: l1Digits, l1Number. -/
namespace Go.Proofs.Ytlcpbdbdiahmjaa
open Go.RowKit

def digQ (a n k : Nat) : List Int := (List.range k).map fun j => ((a / n ^ j % n : Nat) : Int)
theorem digQ_succ {a n k : Nat} : digQ a n (k + 1) = digQ a n k ++ [((a / n ^ k % n : Nat) : Int)] := by simp [digQ, List.range_succ]
theorem digQ_lt {a n k : Nat} (hn : 1 ≤ n) : ∀ x ∈ digQ a n k, 0 ≤ x ∧ x < n := by
  intro x hx
  simp only [digQ, List.mem_map, List.mem_range] at hx
  obtain ⟨j, _, rfl⟩ := hx
  have : a / n ^ j % n < n := Nat.mod_lt _ (by omega)
  omega
theorem wrap_nat {r : Nat} (h : r ≤ 4611686018427387904) : wrap64 (r : Int) = r := IntWalk.wrap64_in _ (by constructor <;> omega)
theorem dig_step {a n k : Nat} : a / n ^ k / n = a / n ^ (k + 1) := by rw [Nat.div_div_eq_div_mul, ← Nat.pow_succ]

set_option maxHeartbeats 4000000 in
set_option maxRecDepth 100000 in
theorem l1Digits_any (a n c : Nat) (w : World) (hn : 1 ≤ n) (hn' : n ≤ 16) (ha : a ≤ 1000000) (hc : c ≤ 1000) :
    Calls Try.prog 140 #[.int .i64 a, .int .i64 n, .int .i64 c] w fun e w' => ∃ v, e = .returned v ∧ w'.ownsRow w.heap.size 3 1 v c (intsV (digQ a n c)) ∧ Below w.heap.size w w' := by
  obtain ⟨i0, hi, hz0, hz1, hz2⟩ := info_parts int_info
  go_enter Try.func140, Try.ntmps140
  go_wp2
  have O0 := Lib.hid (own_literal (w := w) (base := w.heap.size) (e := 3) [] (Nat.le_refl _) (by unfold maxLen; simp))
  have B0 := Lib.hid ((Below.refl w.heap.size w).alloc (Nat.le_refl _) (.cells #[] 3))
  go_loopw [0, 7, 10] (fun av vv i wr => ∃ k : Nat, k ≤ c ∧ i = .int .i64 k ∧ av = .int .i64 ((a / n ^ k : Nat) : Int) ∧ wr.ownsRow w.heap.size 3 1 vv k (intsV (digQ a n k)) ∧ Below w.heap.size w wr) (fun _ _ i _ => c - (intOf i).toNat)
  case atStart => exact ⟨0, Nat.zero_le _, rfl, by simp, O0.out, B0.out⟩
  case round =>
    obtain ⟨k, hk, rfl, rfl, hown, hbel⟩ := hrel
    have OW := Lib.hid hown
    have BW := Lib.hid hbel
    have hsz := hbel.size
    clear hown hbel
    have DS := Lib.hid (dig_step (a := a) (n := n) (k := k))
    have DL := Lib.hid (digQ_succ (a := a) (n := n) (k := k))
    obtain ⟨q, hq⟩ : ∃ q : Nat, a / n ^ k = q := ⟨_, rfl⟩
    have HQ := Lib.hid hq
    rw [hq] at DS DL ⊢
    have hqa : q ≤ 1000000 := Nat.le_trans (by rw [← hq]; exact Nat.div_le_self _ _) ha
    clear hq
    by_cases hlt : k < c
    · obtain ⟨e1, e2⟩ : (q : Int) / n = ((q / n : Nat) : Int) ∧ (q : Int) % n = ((q % n : Nat) : Int) := ⟨by simp, by simp⟩
      have n3 : ¬ n = 0 := by omega
      have E1 := Lib.hid e1
      have E2 := Lib.hid e2
      clear e1 e2
      have wr2 : Below wr.heap.size wr (wr.alloc (.cells #[.int .i64 ((q : Int) % n)] 3)) := (Below.refl _ _).alloc (Nat.le_refl _) _
      go_wp2_with (at_builtin; refine wpList_append_own _ rfl _ _ 23 rfl w.heap.size 3 i0 (.int .i64 0) 1 8 Try.underlying23 hi hz0 hz1 hz2 rfl (by decide) _ _ _ rfl (OW.out.alloc _) ⟨wr.heap.size, 0, none⟩ 1 1 [.int .i64 ((q : Int) % n)] rfl rfl (by intro j u hj; match j, hj with | 0, hj => simp at hj; subst hj; simp [Addr.add]) (by intro u hu; simp at hu; subst hu; rfl) (by unfold maxLen; omega) (by omega) (by simp; omega) ?_; intro v3 w3 hown3 hg3 _)
      have B3 := Lib.hid ((BW.out.trans (wr2.mono hsz)).grown hg3 (Nat.le_trans hsz wr2.size) (fun k hk => (OW.out.lt k hk).1))
      have O3 := Lib.hid (show w3.ownsRow w.heap.size 3 1 v3 (k + 1) (intsV (digQ a n (k + 1))) by
        rw [DL.out, ← intsV_one, ← E2.out]; exact hown3)
      clear hown3 hg3 wr2
      go_wp2
      go_roundw
      case rel => exact ⟨k + 1, by omega, by go_num, by rw [E1.out, ← DS.out, wrap_nat (Nat.le_trans (Nat.div_le_self _ _) (by omega))], O3.out, B3.out⟩
      case measure => simp [intOf]; omega
    · have hkc : k = c := by omega
      subst hkc
      go_wp2
      go_ret
      exact ⟨_, rfl, OW.out, BW.out⟩

/-- The number of digits, the least first. -/
def numQ (n : Nat) : List Int → Int
  | [] => 0
  | x :: xs => numQ n xs * n + x
def InR (n : Nat) (xs : List Int) : Prop := ∀ j, j < xs.length → 0 ≤ xs[j]?.getD 0 ∧ xs[j]?.getD 0 < n
theorem InR.tail {n : Nat} {x : Int} {xs : List Int} (h : InR n (x :: xs)) : (0 ≤ x ∧ x < n) ∧ InR n xs := by
  refine ⟨by simpa using h 0 (by simp), fun j hj => ?_⟩
  have := h (j + 1) (by simp; omega)
  simpa using this
theorem numQ_lt {n : Nat} (hn : 1 ≤ n) : ∀ xs, InR n xs → 0 ≤ numQ n xs ∧ numQ n xs < ((n ^ xs.length : Nat) : Int)
  | [], _ => by simp [numQ]
  | x :: xs, h => by
    obtain ⟨⟨h1, h2⟩, h3⟩ := h.tail
    obtain ⟨h4, h5⟩ := numQ_lt hn xs h3
    simp only [numQ, List.length_cons, Nat.pow_succ]
    obtain ⟨y, hy⟩ := Int.eq_ofNat_of_zero_le h4
    rw [hy] at h5 ⊢
    have h6 : y < n ^ xs.length := by exact_mod_cast h5
    have h7 : (y + 1) * n ≤ n ^ xs.length * n := Nat.mul_le_mul_right _ h6
    rw [Nat.add_mul, Nat.one_mul] at h7
    have h8 : (y : Int) * n = ((y * n : Nat) : Int) := by simp
    rw [h8]
    constructor
    · have : (0 : Int) ≤ ((y * n : Nat) : Int) := Int.natCast_nonneg _
      omega
    · omega
theorem drop_cons {xs : List Int} {k : Nat} (h : k < xs.length) : xs.drop k = xs[k]?.getD 0 :: xs.drop (k + 1) := by
  rw [List.drop_eq_getElem_cons h]
  simp [h]
theorem InR.drop {n : Nat} {xs : List Int} (h : InR n xs) (k : Nat) : InR n (xs.drop k) := fun j hj => by
  rw [List.getElem?_drop]
  exact h (k + j) (by simp at hj; omega)
theorem pow_small {n l : Nat} (hn : n ≤ 16) (hl : l ≤ 8) : n ^ l ≤ 4294967296 :=
  Nat.le_trans (Nat.pow_le_pow_left hn l) (Nat.le_trans (Nat.pow_le_pow_right (by omega) hl) (by decide))

set_option maxHeartbeats 4000000 in
set_option maxRecDepth 100000 in
theorem l1Number_any (A : Option Addr) (l c n B : Nat) (xs : List Int) (w : World) (hx : Ints w B A l xs) (hn : 1 ≤ n) (hn' : n ≤ 16) (hl : l ≤ 8) (hr : InR n xs) :
    Calls Try.prog 141 #[.slice A l c, .int .i64 n] w fun e w' => e = .returned (.int .i64 (numQ n xs)) ∧ w = w' := by
  have hxl := hx.1
  have s1 : IntKind.i64.wrap ((l : Int) - 1) = l - 1 := IntWalk.i64_in _ (by omega)
  go_enter Try.func141, Try.ntmps141
  go_wp2
  go_loopw [5, 6] (fun ov i wr => wr = w ∧ ∃ k : Nat, k ≤ l ∧ i = .int .i64 ((k : Int) - 1) ∧ ov = .int .i64 (numQ n (xs.drop k))) (fun _ i _ => (intOf i + 1).toNat)
  case atStart => exact ⟨rfl, l, Nat.le_refl _, rfl, by rw [← hxl, List.drop_length]; rfl⟩
  case round =>
    obtain ⟨rfl, k, hk, rfl, rfl⟩ := hrel
    cases k with
    | zero =>
      have t1 : decide ((((0 : Nat) : Int) - 1) ≥ 0) = false := by decide
      go_wp2
      go_ret
      exact ⟨by simp, rfl⟩
    | succ k =>
      have e : (((k + 1 : Nat) : Int) - 1) = k := by omega
      rw [e]
      clear e
      obtain ⟨b, off, rfl, hb, hcell⟩ := hx.at_ (k := k) (by omega)
      have hkl : k < xs.length := by omega
      have hdc := drop_cons hkl
      have hd := hr k hkl
      have hv := numQ_lt hn _ (hr.drop (k + 1))
      have hp : n ^ (xs.drop (k + 1)).length ≤ 4294967296 := pow_small hn' (by simp; omega)
      have RD := Lib.hid hdc
      obtain ⟨D, hD⟩ : ∃ D, xs[k]?.getD 0 = D := ⟨_, rfl⟩
      obtain ⟨V, hV⟩ : ∃ V, numQ n (xs.drop (k + 1)) = V := ⟨_, rfl⟩
      have VN := Lib.hid (show numQ n (xs.drop k) = V * n + D by rw [hdc, ← hV, ← hD]; rfl)
      rw [hD] at hcell hd
      rw [hV] at hv ⊢
      clear hdc hV hD RD
      obtain ⟨v, rfl⟩ := Int.eq_ofNat_of_zero_le hv.1
      have hv2 : v ≤ 4294967296 := by have := hv.2; omega
      have m1 : (v : Int) * n = ((v * n : Nat) : Int) := by simp
      have m2 : v * n ≤ 4294967296 * 16 := Nat.mul_le_mul hv2 hn'
      have s2 : IntKind.i64.wrap ((v : Int) * n) = v * n := IntWalk.i64_in _ (by rw [m1]; omega)
      have s3 : IntKind.i64.wrap ((v : Int) * n + D) = v * n + D := IntWalk.i64_in _ (by rw [m1]; omega)
      have t1 : decide ((k : Int) ≥ 0) = true := by simp
      have s4 : IntKind.i64.wrap ((k : Int) - 1) = k - 1 := IntWalk.i64_in _ (by omega)
      clear m1 m2 hv
      go_wp2
      go_roundw
      case rel => exact ⟨trivial, k, by omega, rfl, by rw [VN.out]⟩
      case measure => simp [intOf]

end Go.Proofs.Ytlcpbdbdiahmjaa



/- The reading side's products of polynomials: l1Rest. -/
namespace Go.Proofs.Ytlcpbdbdiahmjaa
open Go.RowKit

theorem intsV_set {Z : List Int} {k : Nat} {x : Int} : (intsV Z).set k (.int .i64 x) = intsV (Z.set k x) := by simp [intsV]
theorem InR.set_ {n : Nat} {Z : List Int} {k : Nat} {x : Int} (h : InR n Z) (h0 : 0 ≤ x) (h1 : x < n) : InR n (Z.set k x) := fun j hj => by
  rw [List.length_set] at hj
  rw [List.getElem?_set]
  by_cases e : k = j
  · subst e
    simp [hj, h0, h1]
  · rw [if_neg e]
    exact h j hj
theorem intsV_get {Z : List Int} {k : Nat} (h : k < Z.length) : (intsV Z)[k]? = some (.int .i64 (Z[k]?.getD 0)) := by
  unfold intsV
  rw [List.getElem?_map, List.getElem?_eq_getElem h]
  rfl
theorem prod_small {x y : Int} {n : Nat} (hn : n ≤ 16) (hx : 0 ≤ x ∧ x < n) (hy : 0 ≤ y ∧ y < n) : 0 ≤ x * y ∧ x * y ≤ 225 := by
  obtain ⟨a, rfl⟩ := Int.eq_ofNat_of_zero_le hx.1
  obtain ⟨b, rfl⟩ := Int.eq_ofNat_of_zero_le hy.1
  have h1 : a * b ≤ 15 * 15 := Nat.mul_le_mul (by omega) (by omega)
  have h2 : (a : Int) * b = ((a * b : Nat) : Int) := by simp
  rw [h2]
  omega
theorem own_next {w w' : World} {base : Nat} {e : TypeId} {size : Nat} {v : Value} {n : Nat} {xs : List Value} (h : w.ownsRow base e size v n xs) (hb : Below w.heap.size w w') : w'.ownsRow base e size v n xs := h.kept (Below.grown_ hb) (own_none v)

/-- A row of small numbers that a call has made. -/
def RowOf (n L D : Nat) (w w' : World) : Prop := ∃ Z : List Int, Z.length = L ∧ InR n Z ∧ w'.ownsRow D 3 1 (.slice (some ⟨D, 0, none⟩) L L) L (intsV Z) ∧ Below D w w'
theorem RowOf.stored {n L D : Nat} {w w1 : World} {Z : List Int} {k : Nat} {x : Int} (hl : Z.length = L) (hr : InR n Z) (ho : w1.ownsRow D 3 1 (.slice (some ⟨D, 0, none⟩) L L) L (intsV Z)) (hb : Below D w w1) (h0 : 0 ≤ x) (h1 : x < n) :
    RowOf n L D w (w1.setCell ⟨D, k, none⟩ (.int .i64 x)) := by
  refine ⟨Z.set k x, by simpa using hl, hr.set_ h0 h1, ?_, hb.setCell (Nat.le_refl _) _⟩
  rw [← intsV_set]
  exact (ho.stored k (.int .i64 x)).1

set_option maxHeartbeats 8000000 in
set_option maxRecDepth 100000 in
theorem l1Rest_any (n d : Nat) (A B F : Option Addr) (ca cb cf : Nat) (a b f : List Int) (w : World) (hn : 1 ≤ n) (hn' : n ≤ 16) (hd : 1 ≤ d) (hd' : d ≤ 8) (ha : Ints w w.heap.size A d a) (hb : Ints w w.heap.size B d b) (hf : Ints w w.heap.size F d f) (ra : InR n a) (rb : InR n b) (rf : InR n f) :
    Calls Try.prog 142 #[.slice A d ca, .slice B d cb, .int .i64 n, .slice F d cf] w fun e w' => ∃ Z : List Int, e = .returned (.slice (some ⟨w.heap.size, 0, none⟩) d (d + d)) ∧ Z.length = d ∧ InR n Z ∧ Ints w' w'.heap.size (some ⟨w.heap.size, 0, none⟩) d Z ∧ Below w.heap.size w w' := by
  obtain ⟨i0, hi, hz0, hz1, hz2⟩ := info_parts int_info
  obtain ⟨L, hL⟩ : ∃ L : Nat, d + d = L := ⟨_, rfl⟩
  have hLd : IntKind.i64.wrap ((d : Int) + d) = L := by rw [← hL]; exact IntWalk.i64_in _ (by omega)
  have HA := Lib.hid ha
  have HB := Lib.hid hb
  have HF := Lib.hid hf
  clear ha hb hf
  rw [hL]
  go_enter Try.func142, Try.ntmps142
  go_wp2_with (at_make; refine wpList_make_full _ rfl (.tmp 20) (.tmp 20) 23 rfl w.heap.size 3 i0 (.int .i64 0) 1 Try.underlying23 hi hz0 hz1 .i64 .i64 _ _ L rfl rfl rfl rfl (by rw [hz2]; omega) (by unfold maxLen; omega) (Nat.le_refl _) ?_; intro w1 hown1 hg1)
  have hb1 : Below w.heap.size w w1 := (Below.refl _ _).grown hg1 (Nat.le_refl _) (by simp)
  have R0 := Lib.hid (show RowOf n L w.heap.size w w1 from by
    refine ⟨List.replicate L 0, by simp, fun j hj => ?_, ?_, hb1⟩
    · simp at hj
      rw [List.getElem?_replicate, if_pos hj]
      simp; omega
    · rw [show intsV (List.replicate L 0) = fillL [] L 0 by simp [fillL, intsV, List.map_const'], ← fillL_zero]
      exact hown1)
  clear hb1 hg1 hown1 hz0 hz1 hz2 hi
  go_loopw [24] (fun i wr => ∃ k : Nat, k ≤ d ∧ i = .int .i64 k ∧ RowOf n L w.heap.size w wr) (fun i _ => d - (intOf i).toNat)
  case atStart => exact ⟨0, Nat.zero_le _, rfl, R0.out⟩
  case round =>
    obtain ⟨i, hi, rfl, ho⟩ := hrel
    by_cases hlt : i < d
    · have RW := Lib.hid ho
      clear ho R0
      go_wp2
      go_loopw [29] (fun j wr => ∃ k : Nat, k ≤ d ∧ j = .int .i64 k ∧ RowOf n L w.heap.size w wr) (fun j _ => d - (intOf j).toNat)
      case atStart => exact ⟨0, Nat.zero_le _, rfl, RW.out⟩
      case round =>
        obtain ⟨k, hk, rfl, Z, hZl, hZr, hown, hbel⟩ := hrel
        by_cases hkd : k < d
        · go_upto_region 8 with (fail)
          have hik : i + k < L := by omega
          have zc := hown.cellAt (i + k) (by omega)
          rw [intsV_get (by omega)] at zc
          have zf := hown.frozenAt (i + k)
          obtain ⟨b1, o1, rfl, _, xa⟩ := (HA.out.below hbel (Nat.le_refl _)).at_ hlt
          obtain ⟨b2, o2, rfl, _, xb⟩ := (HB.out.below hbel (Nat.le_refl _)).at_ hkd
          have hz := hZr (i + k) (by omega)
          have hpa := prod_small hn' (ra i (by rw [HA.out.1]; exact hlt)) (rb k (by rw [HB.out.1]; exact hkd))
          obtain ⟨z, hz'⟩ : ∃ z, Z[i + k]?.getD 0 = z := ⟨_, rfl⟩
          obtain ⟨x, hx'⟩ : ∃ x, a[i]?.getD 0 = x := ⟨_, rfl⟩
          obtain ⟨y, hy'⟩ : ∃ y, b[k]?.getD 0 = y := ⟨_, rfl⟩
          rw [hz'] at hz zc
          rw [hx'] at hpa xa
          rw [hy'] at hpa xb
          clear hz' hx' hy'
          obtain ⟨p, hp⟩ : ∃ p, x * y = p := ⟨_, rfl⟩
          rw [hp] at hpa
          have s1 : IntKind.i64.wrap ((i : Int) + k) = ((i + k : Nat) : Int) := by rw [show (i : Int) + k = ((i + k : Nat) : Int) by simp]; exact IntWalk.i64_in _ (by omega)
          have s2 : IntKind.i64.wrap (x * y) = p := by rw [hp]; exact IntWalk.i64_in _ (by omega)
          have s3 : IntKind.i64.wrap (z + p) = z + p := IntWalk.i64_in _ (by omega)
          have hn0 : ((n : Int) == 0) = false := by simp; omega
          have q1 : 0 ≤ (z + p) % n := Int.emod_nonneg _ (by omega)
          have q2 : (z + p) % n < n := Int.emod_lt_of_pos _ (by omega)
          have OW := Lib.hid hown
          have BW := Lib.hid hbel
          clear hown hbel hp
          refine wp_region_makers 23 (fun _ => false) (fun _ _ _ => True) (fun _ _ => True) (fun _ => undef) probe (by kernel_rfl) (by kernel_rfl) (fun _ _ _ _ _ _ => trivial) (fun _ _ _ _ _ => trivial) (fun _ _ => trivial) ?_
          intro V hV vs _
          have cW : ∃ x, extC V x := ⟨V, extC_of (Below.refl _ _)⟩
          have zc' := (hV.cell (p := ⟨w.heap.size, i + k, none⟩) (block_lt_of_cell zc)).trans zc
          have xa' := (hV.cell (block_lt_of_cell xa)).trans xa
          have xb' := (hV.cell (block_lt_of_cell xb)).trans xb
          simp only [List.take_succ_cons, List.take_zero, List.drop_succ_cons, List.drop_zero]
          refine wpV_quiet cW 23 0 _ _ (by decide) (by decide) ?_
          simp only [List.take_succ_cons, List.take_zero, List.drop_succ_cons, List.drop_zero]
          repeat (go_big_quiet_step (fail))
          refine wpQuiet_nil ?_
          refine wpV_nil ?_
          intro w2 hb2 _ _
          have own2 := own_next OW.out hb2
          have zf2 := own2.frozenAt (i + k)
          have zc2 := own2.cellAt (i + k) (by omega)
          rw [intsV_get (by omega)] at zc2
          have bel2 := BW.out.trans (hb2.mono BW.out.size)
          have R2 := Lib.hid (RowOf.stored (k := i + k) hZl hZr own2 bel2 q1 q2)
          clear own2 bel2 q1 q2 zc zc' xa xb xa' xb' zf
          go_wp2
          go_roundw
          case rel => exact ⟨k + 1, by omega, by go_num, R2.out⟩
          case measure => simp [intOf]; omega
        · have RO := Lib.hid (show RowOf n L w.heap.size w wr from ⟨Z, hZl, hZr, hown, hbel⟩)
          clear hown hbel
          go_wp2
          go_roundw
          case rel => exact ⟨i + 1, by omega, by go_num, RO.out⟩
          case measure => simp [intOf]; omega
    · have RW := Lib.hid ho
      clear ho R0
      have s1 : IntKind.i64.wrap ((L : Int) - 1) = L - 1 := IntWalk.i64_in _ (by omega)
      go_wp2
      go_loopw [12] (fun t wr => ∃ k : Nat, d ≤ k ∧ k ≤ L ∧ t = .int .i64 ((k : Int) - 1) ∧ RowOf n L w.heap.size w wr) (fun t _ => (intOf t + 1).toNat)
      case atStart => exact ⟨L, by omega, Nat.le_refl _, rfl, RW.out⟩
      case round =>
        obtain ⟨k, hk1, hk2, rfl, ho⟩ := hrel
        have RO := Lib.hid ho
        clear ho RW
        by_cases hkd : d < k
        · obtain ⟨t, ht⟩ : ∃ t : Nat, k = t + 1 := ⟨k - 1, by omega⟩
          subst ht
          have e : (((t + 1 : Nat) : Int) - 1) = t := by omega
          rw [e]
          clear e
          have t1 : decide ((t : Int) ≥ d) = true := by simp; omega
          go_wp2
          go_loopw [68] (fun j wr => ∃ q : Nat, q ≤ d ∧ j = .int .i64 q ∧ RowOf n L w.heap.size w wr) (fun j _ => d - (intOf j).toNat)
          case atStart => exact ⟨0, Nat.zero_le _, rfl, RO.out⟩
          case round =>
            obtain ⟨q, hq, rfl, Z, hZl, hZr, hown, hbel⟩ := hrel
            by_cases hqd : q < d
            · have hA : t - d + q < L := by omega
              obtain ⟨b3, o3, rfl, _, xf⟩ := (HF.out.below hbel (Nat.le_refl _)).at_ hqd
              have s2 : IntKind.i64.wrap ((t : Int) - d) = ((t - d : Nat) : Int) := by rw [show (t : Int) - d = ((t - d : Nat) : Int) by omega]; exact IntWalk.i64_in _ (by omega)
              have s3 : IntKind.i64.wrap (((t - d : Nat) : Int) + q) = ((t - d + q : Nat) : Int) := by rw [show ((t - d : Nat) : Int) + q = ((t - d + q : Nat) : Int) by omega]; exact IntWalk.i64_in _ (by omega)
              have hpf := rf q (by rw [HF.out.1]; exact hqd)
              obtain ⟨y, hy'⟩ : ∃ y, f[q]?.getD 0 = y := ⟨_, rfl⟩
              rw [hy'] at hpf xf
              clear hy'
              go_upto_region 18 with (fail)
              have zc := hown.cellAt (t - d + q) (by omega)
              rw [intsV_get (by omega)] at zc
              have yc := hown.cellAt t (by omega)
              rw [intsV_get (by omega)] at yc
              have hz := hZr (t - d + q) (by omega)
              have hpa := prod_small hn' (hZr t (by omega)) hpf
              obtain ⟨z, hz'⟩ : ∃ z, Z[t - d + q]?.getD 0 = z := ⟨_, rfl⟩
              obtain ⟨x, hx'⟩ : ∃ x, Z[t]?.getD 0 = x := ⟨_, rfl⟩
              rw [hz'] at hz zc
              rw [hx'] at hpa yc
              clear hz' hx'
              obtain ⟨p, hp⟩ : ∃ p, x * y = p := ⟨_, rfl⟩
              rw [hp] at hpa
              have s4 : IntKind.i64.wrap (x * y) = p := by rw [hp]; exact IntWalk.i64_in _ (by omega)
              have s5 : IntKind.i64.wrap (z - p) = z - p := IntWalk.i64_in _ (by omega)
              have hn1 : (0 : Int) < n := by omega
              obtain ⟨r, hr⟩ : ∃ r, (z - p).tmod n = r := ⟨_, rfl⟩
              have hr1 : -(n : Int) < r := by rw [← hr]; exact Int.lt_tmod_of_pos _ hn1
              have hr2 : r < n := by rw [← hr]; exact Int.tmod_lt_of_pos _ hn1
              have s6 : IntKind.i64.wrap (r + n) = r + n := IntWalk.i64_in _ (by omega)
              have hn0 : ((n : Int) == 0) = false := by simp; omega
              have q1 : 0 ≤ (r + n) % n := Int.emod_nonneg _ (by omega)
              have q2 : (r + n) % n < n := Int.emod_lt_of_pos _ (by omega)
              have OW := Lib.hid hown
              have BW := Lib.hid hbel
              clear hown hbel hp
              refine wp_region_makers 20 (fun _ => false) (fun _ _ _ => True) (fun _ _ => True) (fun _ => undef) probe (by kernel_rfl) (by kernel_rfl) (fun _ _ _ _ _ _ => trivial) (fun _ _ _ _ _ => trivial) (fun _ _ => trivial) ?_
              intro V hV vs _
              have cW : ∃ x, extC V x := ⟨V, extC_of (Below.refl _ _)⟩
              have zc' := (hV.cell (p := ⟨w.heap.size, t - d + q, none⟩) (block_lt_of_cell zc)).trans zc
              have yc' := (hV.cell (p := ⟨w.heap.size, t, none⟩) (block_lt_of_cell yc)).trans yc
              simp only [List.take_succ_cons, List.take_zero, List.drop_succ_cons, List.drop_zero]
              refine wpV_quiet cW 20 0 _ _ (by decide) (by decide) ?_
              simp only [List.take_succ_cons, List.take_zero, List.drop_succ_cons, List.drop_zero]
              repeat (go_big_quiet_step (fail))
              refine wpQuiet_nil ?_
              refine wpV_nil ?_
              intro w2 hb2 _ _
              have own2 := own_next OW.out hb2
              have zf2 := own2.frozenAt (t - d + q)
              have zc2 := own2.cellAt (t - d + q) (by omega)
              rw [intsV_get (by omega)] at zc2
              have bel2 := BW.out.trans (hb2.mono BW.out.size)
              have R2 := Lib.hid (RowOf.stored (k := t - d + q) hZl hZr own2 bel2 q1 q2)
              clear own2 bel2 zc zc' yc yc' xf q1 q2
              go_wp2
              go_roundw
              case rel => exact ⟨q + 1, by omega, by go_num, by rw [show r % (n : Int) = (r + n) % n by simp]; exact R2.out⟩
              case measure => simp [intOf]; omega
            · have zf := hown.frozenAt t
              have zc := hown.cellAt t (by omega)
              rw [intsV_get (by omega)] at zc
              have R2 := Lib.hid (RowOf.stored (k := t) (x := 0) hZl hZr hown hbel (by omega) (by omega))
              have s7 : IntKind.i64.wrap ((t : Int) - 1) = t - 1 := IntWalk.i64_in _ (by omega)
              clear hown hbel
              go_wp2
              go_roundw
              case rel => exact ⟨t, by omega, by omega, rfl, R2.out⟩
              case measure => simp [intOf]
        · have e : k = d := by omega
          subst e
          have t1 : decide ((k : Int) - 1 ≥ k) = false := by simp; omega
          have hkL : (k : Int) ≤ L := by omega
          go_wp2
          go_ret
          obtain ⟨Z, hZl, hZr, hown, hbel⟩ := RO.out
          refine ⟨Z.take k, rfl, by simp; omega, fun j hj => ?_, ?_, hbel⟩
          · have hj' : j < k := by simp at hj; omega
            rw [List.getElem?_take, if_pos hj']
            exact hZr j (by omega)
          · have hI := ints_of_own (xs := Z) hown hZl
            refine ⟨by simp; omega, fun h0 => ?_⟩
            obtain ⟨b, off, e, hb, hc⟩ := hI.2 (by omega)
            refine ⟨b, off, e, hb, fun j x hx => hc j x ?_⟩
            have hj' : j < k := by
              rcases Nat.lt_or_ge j k with h | h
              · exact h
              · rw [List.getElem?_take, if_neg (by omega)] at hx; cases hx
            rw [List.getElem?_take, if_pos hj'] at hx
            exact hx

end Go.Proofs.Ytlcpbdbdiahmjaa



/- Rings of polynomials that the drawing side makes: l1Tower. -/
namespace Go.Proofs.Ytlcpbdbdiahmjaa
open Go.RowKit

/-- A row of small numbers that was made behind a bound. -/
def rowQ (D d n : Nat) (v : Value) (w : World) : Prop := ∃ (g cap : Nat) (Z : List Int), v = .slice (some ⟨g, 0, none⟩) d cap ∧ InR n Z ∧ D ≤ g ∧ Ints w w.heap.size (some ⟨g, 0, none⟩) d Z
theorem rowQ.next {D d n : Nat} {v : Value} {w w' : World} (h : rowQ D d n v w) (hb : Below w.heap.size w w') : rowQ D d n v w' := by
  obtain ⟨g, cap, Z, h1, h2, h3, h4⟩ := h
  exact ⟨g, cap, Z, h1, h2, h3, h4.next hb⟩
theorem InR_of {n : Nat} {xs : List Int} (h : ∀ x ∈ xs, 0 ≤ x ∧ x < n) : InR n xs := fun j hj => by
  rw [List.getElem?_eq_getElem hj]
  exact h _ (List.getElem_mem hj)
theorem InR.snoc {n : Nat} {xs : List Int} {x : Int} (h : InR n xs) (h0 : 0 ≤ x) (h1 : x < n) : InR n (xs ++ [x]) := fun j hj => by
  simp at hj
  by_cases e : j < xs.length
  · rw [List.getElem?_append_left e]; exact h j e
  · have : j = xs.length := by omega
    subst this
    simp [h0, h1]
theorem makesD_one {o : Oper} {a : Act} (x : Operand) (n : Int) (hop : o.op = .buildSlice 23 1 #[(0, x)]) (hx : a.eval x = .int .i64 n) (w : World) {F : Value → World → Prop}
    (hF : ∀ w', Blk w' w.heap.size 3 #[.int .i64 n] → F (.slice (some ⟨w.heap.size, 0, none⟩) 1 1) w') : makesAtD Try.prog o a w F := by
  unfold makesAtD
  generalize a.eval = ev at hx ⊢
  simp only [execOp, hop]
  go_simp
  refine ⟨(Below.refl _ _).alloc (Nat.le_refl _) _, hF _ (Blk.new w _ _), fun b hb => ?_⟩
  simp [blocksOf] at hb
  subst hb
  simp
theorem hgrow_cell {w w' : World} {g k : Nat} {row : Option Nat} (hg : w.grownBy w' row) (hl : g < w.heap.size) (hne : some g ≠ row) : w'.cell? ⟨g, k, none⟩ = w.cell? ⟨g, k, none⟩ := World.cell?_of_block (hg.block g hl hne)
theorem Ints.rest {w w' : World} {B d g : Nat} {Z : List Int} {row : Option Nat} {p : Addr} {u : Value} (h : Ints w B (some ⟨g, 0, none⟩) d Z) (hg : w.grownBy w' row) (hne : some g ≠ row) (hp : g ≠ p.block) : Ints (w'.setCell p u) (w'.setCell p u).heap.size (some ⟨g, 0, none⟩) d Z := by
  refine ⟨h.1, fun h0 => ?_⟩
  obtain ⟨b, off, e, _, hc⟩ := h.2 h0
  injection e with e
  injection e with e1 e2
  subst e1 e2
  have hl : g < w.heap.size := by
    have := hc 0 _ (List.getElem?_eq_getElem (by have := h.1; omega))
    exact block_lt_of_cell this
  refine ⟨g, 0, rfl, ?_, fun k x hx => ?_⟩
  · have := hg.size
    simp only [World.setCell, Array.size_modify]
    omega
  · have h1 := hc k x hx
    rw [← hgrow_cell hg hl hne] at h1
    exact (World.cell?_of_block (Below.heap_setCell w' p u g hp)).trans h1
theorem row_of_own {w : World} {D d n : Nat} {v : Value} {Z : List Int} (h : w.ownsRow D 3 1 v d (intsV Z)) (hd : 1 ≤ d) (hr : InR n Z) : rowQ D d n v w := by
  obtain ⟨g, cap, rfl, _, _⟩ := h.form hd
  have hl : Z.length = d := by have := h.1; simpa [intsV] using this
  exact ⟨g, cap, Z, rfl, hr, (h.lt g rfl).1, ints_of_own h hl⟩

def remMk (i : Nat) : Bool := i == 6 || i == 8 || i == 9
structure RemPhi (D d n N : Nat) (i : Nat) (v : Value) (w : World) : Prop where
  p6 : i = 6 → rowQ D d n v w
  p8 : i = 8 → ∃ x : Int, v = .int .i64 x ∧ 0 ≤ x ∧ x < N
  p9 : i = 9 → ∃ (g : Nat) (x : Int), v = .slice (some ⟨g, 0, none⟩) 1 1 ∧ 0 ≤ x ∧ x < N ∧ D ≤ g ∧ Blk w g 3 #[.int .i64 x]
structure RemSh (d : Nat) (i : Nat) (v : Value) : Prop where
  p6 : i = 6 → ∃ g cap : Nat, v = .slice (some ⟨g, 0, none⟩) d cap
  p8 : i = 8 → ∃ x : Int, v = .int .i64 x
  p9 : i = 9 → ∃ g : Nat, v = .slice (some ⟨g, 0, none⟩) 1 1
theorem RemPhi_stable {D d n N : Nat} (i : Nat) (v : Value) (w w' : World) (h : RemPhi D d n N i v w) (hb : Below w.heap.size w w') : RemPhi D d n N i v w' :=
  ⟨fun e => (h.p6 e).next hb, h.p8, fun e => by obtain ⟨g, x, h1, h2, h3, h4, h5⟩ := h.p9 e; exact ⟨g, x, h1, h2, h3, h4, h5.below hb h5.lt⟩⟩
theorem RemSh_of {D d n N : Nat} (i : Nat) (v : Value) (w : World) (h : RemPhi D d n N i v w) : RemSh d i v :=
  ⟨fun e => by obtain ⟨g, cap, Z, h1, _⟩ := h.p6 e; exact ⟨g, cap, h1⟩, fun e => by obtain ⟨x, h1, _⟩ := h.p8 e; exact ⟨x, h1⟩, fun e => by obtain ⟨g, x, h1, _⟩ := h.p9 e; exact ⟨g, h1⟩⟩
def rem0 (d : Nat) (i : Nat) : Value := if i = 8 then .int .i64 0 else if i = 9 then .slice (some ⟨0, 0, none⟩) 1 1 else .slice (some ⟨0, 0, none⟩) d d
theorem RemSh_zero (d i : Nat) : RemSh d i (rem0 d i) := ⟨fun e => by subst e; exact ⟨0, d, rfl⟩, fun e => by subst e; exact ⟨0, rfl⟩, fun e => by subst e; exact ⟨0, rfl⟩⟩
def digMk (i : Nat) : Bool := i == 6 || i == 13
def digPhi (D d n : Nat) (_ : Nat) (v : Value) (w : World) : Prop := rowQ D d n v w
def digSh (d : Nat) (_ : Nat) (v : Value) : Prop := ∃ g cap : Nat, v = .slice (some ⟨g, 0, none⟩) d cap
theorem digPhi_stable {D d n : Nat} (i : Nat) (v : Value) (w w' : World) (h : digPhi D d n i v w) (hb : Below w.heap.size w w') : digPhi D d n i v w' := rowQ.next h hb
theorem digSh_of {D d n : Nat} (i : Nat) (v : Value) (w : World) (h : digPhi D d n i v w) : digSh d i v := by
  obtain ⟨g, cap, Z, h1, _⟩ := h
  exact ⟨g, cap, h1⟩

set_option maxHeartbeats 16000000 in
set_option maxRecDepth 100000 in
theorem l1Tower_any (n d N : Nat) (F : Option Addr) (cf : Nat) (f : List Int) (w : World) (hn : 1 ≤ n) (hd : 1 ≤ d) (hN : n ^ d = N) (hN' : N ≤ 16) (hd' : d ≤ 8) (hf : Ints w w.heap.size F d f) (rf : InR n f) :
    Calls Try.prog 132 #[.int .i64 n, .slice F d cf] w fun e w' => ∃ v X Y, e = .returned v ∧ NewRing w.heap.size w' v N ((1 % N : Nat) : Int) (N * N) X Y ∧ X.length = N * N ∧ Y.length = N * N ∧ InR N X ∧ InR N Y ∧ Below w.heap.size w w' := by
  have hnN : n ≤ N := by rw [← hN]; exact Nat.le_self_pow (by omega) n
  have hN1 : 1 ≤ N := Nat.le_trans hn hnN
  obtain ⟨i0, hi, hz0, hz1, hz2⟩ := info_parts int_info
  obtain ⟨s1, s2, s3, s4⟩ := sqI hN'
  have S3 := Lib.hid s3
  have HF := Lib.hid hf
  clear s3 hf
  go_enter Try.func132, Try.ntmps132
  go_wp2_with (fail)
  obtain ⟨V, hV⟩ : ∃ V, w.alloc (.cells #[.int .i64 0, .int .i64 0, .slice none 0 0, .slice none 0 0] 25) = V := ⟨_, rfl⟩
  have hVs : V.heap.size = w.heap.size + 1 := by subst hV; simp
  have Z0 := Lib.hid (show Blk V w.heap.size 25 #[.int .i64 0, .int .i64 0, .slice none 0 0, .slice none 0 0] by subst hV; exact Blk.new w _ _)
  have BV := Lib.hid (show Below w.heap.size w V by subst hV; exact (Below.refl _ _).alloc (Nat.le_refl _) _)
  rw [hV]
  clear hV
  go_loopw [5, 14] (fun sv i wr => wr = V ∧ ∃ k : Nat, k ≤ d ∧ i = .int .i64 k ∧ sv = .int .i64 ((n ^ k : Nat) : Int)) (fun _ i _ => d - (intOf i).toNat)
  case atStart => exact ⟨rfl, 0, Nat.zero_le _, rfl, by simp⟩
  case round =>
    obtain ⟨rfl, k, hk, rfl, rfl⟩ := hrel
    have hpk : n ^ k ≤ N := by rw [← hN]; exact Nat.pow_le_pow_right hn hk
    by_cases hlt : k < d
    · have hps := Nat.pow_succ n k
      have hpk1 : n ^ (k + 1) ≤ N := by rw [← hN]; exact Nat.pow_le_pow_right hn hlt
      obtain ⟨P, hP⟩ : ∃ P, n ^ k = P := ⟨_, rfl⟩
      obtain ⟨R, hR⟩ : ∃ R, n ^ (k + 1) = R := ⟨_, rfl⟩
      have HR := Lib.hid hR
      rw [hP, hR] at hps
      rw [hR] at hpk1
      rw [hP] at hpk ⊢
      have m1 : (P : Int) * n = (R : Int) := by rw [hps]; simp
      have s5 : IntKind.i64.wrap ((P : Int) * n) = R := by rw [m1]; exact IntWalk.i64_in _ (by omega)
      clear hP hR m1 hps
      go_wp2
      go_roundw
      case rel => exact ⟨trivial, k + 1, by omega, by go_num, by rw [HR.out]⟩
      case measure => simp [intOf]; omega
    · have hkd : d = k := by omega
      subst hkd
      rw [hN]
      have n3 : ¬ N = 0 := by omega
      go_wp2_with (fail)
      clear hpk
      have HNd := Lib.hid hN
      clear hN
      obtain ⟨W, hW⟩ : ∃ W, wr.alloc (.cells #[.int .i64 N, .int .i64 (1 % (N : Int)), .slice none 0 0, .slice none 0 0] 25) = W := ⟨_, rfl⟩
      have z0 : Blk W w.heap.size 25 #[.int .i64 0, .int .i64 0, .slice none 0 0, .slice none 0 0] := by subst hW; exact Z0.out.alloc _
      have b1 : Below wr.heap.size wr W := by subst hW; exact (Below.refl _ _).alloc (Nat.le_refl _) _
      have k1 : Grow (w.heap.size + 1) W (w.heap.size + 1) N (1 % (N : Int)) (.slice none 0 0) (.slice none 0 0) 0 0 [] [] := by
        refine ⟨?_, by omega, World.ownsRow_nil _ _ _ _, World.ownsRow_nil _ _ _ _, by simp [Value.ownBlock], by simp [Value.ownBlock], by simp [Value.ownBlock]⟩
        subst hW; rw [← hVs]; exact Blk.new _ _ _
      have bw : Below w.heap.size w W := BV.out.trans (b1.mono (by omega))
      rw [hW]
      clear hW BV
      have K0 := Lib.hid z0
      have K1 := Lib.hid k1
      have B0 := Lib.hid bw
      have FW := Lib.hid (HF.out.below bw (Nat.le_refl _))
      clear z0 k1 b1 bw Z0 HF hVs
      obtain ⟨D, hD⟩ : ∃ D, w.heap.size + 1 = D := ⟨_, rfl⟩
      rw [hD] at K1 ⊢
      have HD := Lib.hid hD
      have hDW : D < W.heap.size := K1.out.box.lt
      have hz : w.heap.size < D := by omega
      clear hD
      go_loopw [27] (fun i wr => ∃ (k : Nat) (v2 v3 : Value) (X Y : List Int), k ≤ N * N ∧ i = .int .i64 k ∧ Grow D wr D N (1 % (N : Int)) v2 v3 k k X Y ∧ (X.length = k ∧ Y.length = k ∧ InR N X ∧ InR N Y) ∧ Below D W wr) (fun i _ => N * N - (intOf i).toNat)
      case atStart => exact ⟨0, _, _, [], [], Nat.zero_le _, rfl, K1.out, ⟨rfl, rfl, fun j hj => absurd hj (by simp), fun j hj => absurd hj (by simp)⟩, Below.refl _ _⟩
      case round =>
        obtain ⟨k, v2, v3, X, Y, hk, rfl, hg, ⟨hXl, hYl, hXr, hYr⟩, hb⟩ := hrel
        have GR := Lib.hid hg
        have BR := Lib.hid hb
        have ZR := Lib.hid (K0.out.below hb hz)
        have hDr : D < wr.heap.size := hg.box.lt
        have FR := Lib.hid (FW.out.below hb (Nat.le_of_lt hz))
        clear hg hb
        by_cases hlt : k < N * N
        · have i1 : (k : Int) < (N : Int) * N := by rw [S3.out]; omega
          obtain ⟨p1, p2⟩ := parts2 hlt
          obtain ⟨A, eA⟩ : ∃ A : Nat, k / N = A := ⟨_, rfl⟩
          obtain ⟨B, eB⟩ : ∃ B : Nat, k % N = B := ⟨_, rfl⟩
          have e1 : (k : Int) / N = (A : Int) := by rw [← eA]; simp
          have e2 : (k : Int) % N = (B : Int) := by rw [← eB]; simp
          rw [eA] at p1
          rw [eB] at p2
          clear eA eB
          go_upto_region 10 with (fail)
          refine wp_region_makers 14 digMk (digPhi wr.heap.size d n) (digSh d) (fun _ => .slice (some ⟨0, 0, none⟩) d d) probe (by kernel_rfl) (by kernel_rfl) digPhi_stable (fun i v x _ => digSh_of i v x) (fun _ _ => ⟨0, d, rfl⟩) ?_
          intro W1 hW1 vs hvs
          obtain ⟨ga, ka, ea⟩ := hvs 6 rfl
          obtain ⟨gb, kb, eb⟩ := hvs 13 rfl
          have cW : ∃ x, extC W1 x := ⟨W1, extC_of (Below.refl _ _)⟩
          have big : ∀ x, extC W1 x → wr.heap.size ≤ x.heap.size := fun x ⟨u, hu⟩ => by rw [hu]; exact Nat.le_trans hW1.size (ext_size W1 u)
          simp only [List.take_succ_cons, List.take_zero, List.drop_succ_cons, List.drop_zero]
          refine wpV_quiet cW 6 0 _ _ (by decide) (by decide) ?_
          simp only [List.take_succ_cons, List.take_zero, List.drop_succ_cons, List.drop_zero]
          repeat (go_big_quiet_step (fail))
          refine wpQuiet_nil ?_
          refine wpV_make' rfl rfl (fun x hx => ?_) ?_
          · unfold makesAt
            go_simp
            refine ⟨rfl, (l1Digits_any A n d x hn (by omega) (by omega) (by omega)).mono ?_⟩
            rintro _ x' ⟨v, rfl, ho, hb⟩
            obtain ⟨g0, c0, rfl, _, _⟩ := ho.form hd
            exact ⟨_, rfl, hb, row_of_own (own_base ho (big x hx)) hd (InR_of (digQ_lt hn)), fun b hbb => (by simp [blockOf] at hbb; subst hbb; exact ho.lt g0 rfl)⟩
          rw [ea]
          go_simp
          refine wpV_quiet cW 6 7 _ _ (by decide) (by decide) ?_
          simp only [List.take_succ_cons, List.take_zero, List.drop_succ_cons, List.drop_zero]
          repeat (go_big_quiet_step (fail))
          refine wpQuiet_nil ?_
          refine wpV_make' rfl rfl (fun x hx => ?_) ?_
          · unfold makesAt
            go_simp
            refine ⟨rfl, (l1Digits_any B n d x hn (by omega) (by omega) (by omega)).mono ?_⟩
            rintro _ x' ⟨v, rfl, ho, hb⟩
            obtain ⟨g0, c0, rfl, _, _⟩ := ho.form hd
            exact ⟨_, rfl, hb, row_of_own (own_base ho (big x hx)) hd (InR_of (digQ_lt hn)), fun b hbb => (by simp [blockOf] at hbb; subst hbb; exact ho.lt g0 rfl)⟩
          rw [eb]
          go_simp
          refine wpV_nil ?_
          intro w2 hb2 hfacts _
          obtain ⟨Za, da, lea, RA⟩ : ∃ Z, InR n Z ∧ wr.heap.size ≤ ga ∧ Ints w2 w2.heap.size (some ⟨ga, 0, none⟩) d Z := by
            obtain ⟨g, cap, Z, q, r, hl, i⟩ := hfacts 6 (by decide) rfl
            rw [ea] at q
            simp at q
            obtain ⟨rfl, _⟩ := q
            exact ⟨Z, r, hl, i⟩
          obtain ⟨Zb, db, leb, RB⟩ : ∃ Z, InR n Z ∧ wr.heap.size ≤ gb ∧ Ints w2 w2.heap.size (some ⟨gb, 0, none⟩) d Z := by
            obtain ⟨g, cap, Z, q, r, hl, i⟩ := hfacts 13 (by decide) rfl
            rw [eb] at q
            simp at q
            obtain ⟨rfl, _⟩ := q
            exact ⟨Z, r, hl, i⟩
          have RA := Lib.hid RA
          have RB := Lib.hid RB
          have na : some ga ≠ v2.ownBlock := fun e => by have := (GR.out.o2.lt ga e.symm).2; omega
          have nb : some gb ≠ v2.ownBlock := fun e => by have := (GR.out.o2.lt gb e.symm).2; omega
          have da0 : D < ga := by omega
          have db0 : D < gb := by omega
          have GD := Lib.hid (GR.out.keep hb2)
          have BD := Lib.hid (BR.out.trans (hb2.mono (Nat.le_of_lt hDr)))
          have hD2 : D < w2.heap.size := GD.out.box.lt
          clear hfacts hvs ea eb cW big hW1 hb2 lea leb
          go_upto_region 12 with (fail)
          have O0 := Lib.hid (own_literal (w := w2) (base := w2.heap.size) (e := 3) [] (Nat.le_refl _) (by unfold maxLen; simp))
          have L0 := Lib.hid ((Below.refl w2.heap.size w2).alloc (Nat.le_refl _) (.cells #[] 3))
          go_wp2_with (fail)
          go_loopw [10, 47] (fun sv j wr => ∃ (q : Nat) (Z : List Int), q ≤ d ∧ j = .int .i64 q ∧ wr.ownsRow w2.heap.size 3 1 sv q (intsV Z) ∧ InR n Z ∧ Below w2.heap.size w2 wr) (fun _ j _ => d - (intOf j).toNat)
          case atStart => exact ⟨0, [], Nat.zero_le _, rfl, O0.out, fun j hj => absurd hj (by simp), L0.out⟩
          case round =>
            obtain ⟨q, Z, hq, rfl, hown, hZ, hbel⟩ := hrel
            have OW := Lib.hid hown
            have LW := Lib.hid hbel
            have h2r := hbel.size
            clear hown hbel O0 L0
            by_cases hqd : q < d
            · obtain ⟨_, _, e3, _, xa⟩ := (RA.out.below LW.out (Nat.le_refl _)).at_ hqd
              injection e3 with e3
              injection e3 with e4 e5
              subst e4 e5
              obtain ⟨_, _, e3, _, xb⟩ := (RB.out.below LW.out (Nat.le_refl _)).at_ hqd
              injection e3 with e3
              injection e3 with e4 e5
              subst e4 e5
              have ba := da q (by rw [RA.out.1]; exact hqd)
              have bb := db q (by rw [RB.out.1]; exact hqd)
              obtain ⟨x', hx'⟩ : ∃ x', Za[q]?.getD 0 = x' := ⟨_, rfl⟩
              obtain ⟨y', hy'⟩ : ∃ y', Zb[q]?.getD 0 = y' := ⟨_, rfl⟩
              rw [hx'] at ba xa
              rw [hy'] at bb xb
              rw [Nat.zero_add] at xa xb
              clear hx' hy'
              have s5 : IntKind.i64.wrap (x' + y') = x' + y' := IntWalk.i64_in _ (by omega)
              have n0 : ¬ n = 0 := by omega
              have q1 : 0 ≤ (x' + y') % n := Int.emod_nonneg _ (by omega)
              have q2 : (x' + y') % n < n := Int.emod_lt_of_pos _ (by omega)
              obtain ⟨z, hz'⟩ : ∃ z, (x' + y') % n = z := ⟨_, rfl⟩
              rw [hz'] at q1 q2
              have hkk : q + 1 ≤ maxLen := by unfold maxLen; omega
              have hbt : (q + 1) * 8 ≤ 140737488355328 := by omega
              go_upto_region 15 with (fail)
              refine wp_region_makers 13 (fun i => i == 12) (appPhi D (.int .i64 z)) appSh (fun _ => .slice (some ⟨0, 0, none⟩) 1 1) probe (by kernel_rfl) (by kernel_rfl) appPhi_stable (fun i v x _ => appSh_of i v x) (fun _ _ => ⟨0, rfl⟩) ?_
              intro W1 hW1 vs hvs
              obtain ⟨g1, e1⟩ : ∃ g, vs 12 = .slice (some ⟨g, 0, none⟩) 1 1 := hvs 12 rfl
              have cW : ∃ x, extC W1 x := ⟨W1, extC_of (Below.refl _ _)⟩
              have big : ∀ x, extC W1 x → D ≤ x.heap.size := fun x ⟨u, hu⟩ => by rw [hu]; exact Nat.le_trans (Nat.le_of_lt hD2) (Nat.le_trans h2r (Nat.le_trans hW1.size (ext_size W1 u)))
              have xa' := (hW1.cell (block_lt_of_cell xa)).trans xa
              have xb' := (hW1.cell (block_lt_of_cell xb)).trans xb
              simp only [List.take_succ_cons, List.take_zero, List.drop_succ_cons, List.drop_zero]
              refine wpV_quiet cW 12 0 _ _ (by decide) (by decide) ?_
              simp only [List.take_succ_cons, List.take_zero, List.drop_succ_cons, List.drop_zero]
              repeat (go_big_quiet_step (fail))
              refine wpQuiet_nil ?_
              refine wpV_make' rfl rfl (fun x hx => makesAt_mono (makes_one _ _ rfl (by first | rfl | (refine Eq.trans (b := Value.int .i64 ((x' + y').tmod n)) rfl ?_; rw [Int.tmod_eq_emod_of_nonneg (by omega), hz']) | (refine Eq.trans (b := Value.int .i64 ((x' + y') % n)) rfl ?_; rw [hz'])) x) fun v x' ⟨g, p1, p2, p3⟩ => ⟨g, p1, Nat.le_trans (big x hx) p2, p3⟩) ?_
              rw [e1]
              go_simp
              refine wpV_nil ?_
              intro w3 hb3 hfacts _
              obtain ⟨g2, q3, _, r3⟩ := hfacts 12 (by omega) rfl
              have eg : g2 = g1 := by rw [e1] at q3; simp at q3; exact q3.symm
              subst eg
              have ok := own_next OW.out hb3
              refine wpList_append_lies _ rfl _ _ _ rfl w2.heap.size 3 i0 _ 1 8 Try.underlying23 hi hz0 hz1 hz2 rfl (by omega) u10 q _ rfl ok ⟨g2, 0, none⟩ 1 1 _ rfl rfl (World.news_of_block r3) (by simp [Value.oneCell']) (by omega) hkk hbt (Nat.le_trans h2r hb3.size) _ rfl ?_
              intro gg cap w7 hown7 hgrow7 _ _
              have O7 := Lib.hid (show w7.ownsRow w2.heap.size 3 1 (.slice (some ⟨gg, 0, none⟩) (q + 1) cap) (q + 1) (intsV (Z ++ [z])) by rw [← intsV_one]; exact hown7)
              have L7 := Lib.hid ((LW.out.trans (hb3.mono h2r)).grown hgrow7 (Nat.le_trans h2r hb3.size) (fun k hk => (OW.out.lt k hk).1))
              clear hown7 hgrow7 ok hfacts q3 r3 xa xb xa' xb' hvs e1 cW big hW1 hb3
              go_wp2
              go_roundw
              case rel => exact ⟨q + 1, Z ++ [z], by omega, by go_num, O7.out, hZ.snoc q1 q2, L7.out⟩
              case measure => simp [intOf]; omega
            · have hqe : d = q := by omega
              subst hqe
              obtain ⟨gs, cs, rfl, _, _⟩ := OW.out.form hd
              have hDw : D ≤ wr.heap.size := Nat.le_trans (Nat.le_of_lt hD2) h2r
              have hZl : Z.length = d := by have := OW.out.1; simpa [intsV] using this
              have SI := Lib.hid (show Ints wr wr.heap.size (some ⟨gs, 0, none⟩) d Z from ints_of_own OW.out hZl)
              have GE := Lib.hid (GD.out.keep LW.out)
              have BE := Lib.hid (BD.out.trans (LW.out.mono (Nat.le_of_lt hD2)))
              have RA := Lib.hid (RA.out.next LW.out)
              have RB := Lib.hid (RB.out.next LW.out)
              have hnum := numQ_lt hn Z hZ
              rw [hZl, HNd.out] at hnum
              obtain ⟨x1, hx1⟩ : ∃ x, numQ n Z = x := ⟨_, rfl⟩
              have HL := Lib.hid (show ∀ x, Ints x x.heap.size (some ⟨gs, 0, none⟩) d Z → Calls Try.prog 141 #[.slice (some ⟨gs, 0, none⟩) d cs, .int .i64 n] x fun e' w' => e' = .returned (.int .i64 x1) ∧ Below x.heap.size x w' from fun x h => by rw [← hx1]; exact below_of_eq (l1Number_any (some ⟨gs, 0, none⟩) d cs n _ Z x h hn (by omega) hd' hZ))
              rw [hx1] at hnum
              have hkk : k + 1 ≤ maxLen := by unfold maxLen; omega
              have hbt : (k + 1) * 8 ≤ 140737488355328 := by omega
              clear hx1 OW LW GD BD
              go_upto_region 17 with (fail)
              refine wp_region_makers 6 (fun i => i == 5) (appPhi D (.int .i64 x1)) appSh (fun _ => .slice (some ⟨0, 0, none⟩) 1 1) probe (by kernel_rfl) (by kernel_rfl) appPhi_stable (fun i v x _ => appSh_of i v x) (fun _ _ => ⟨0, rfl⟩) ?_
              intro W1 hW1 vs hvs
              obtain ⟨h1, e1⟩ : ∃ g, vs 5 = .slice (some ⟨g, 0, none⟩) 1 1 := hvs 5 rfl
              have cW : ∃ x, extC W1 x := ⟨W1, extC_of (Below.refl _ _)⟩
              have big : ∀ x, extC W1 x → D ≤ x.heap.size := fun x ⟨u, hu⟩ => by rw [hu]; exact Nat.le_trans hDw (Nat.le_trans hW1.size (ext_size W1 u))
              have cA := (GE.out.keep hW1).box.cell 2
              simp at cA
              have SW := Lib.hid (SI.out.next hW1)
              simp only [List.take_succ_cons, List.take_zero, List.drop_succ_cons, List.drop_zero]
              refine wpV_quiet cW 5 0 _ _ (by decide) (by decide) ?_
              simp only [List.take_succ_cons, List.take_zero, List.drop_succ_cons, List.drop_zero]
              repeat (go_big_quiet_step (first | (go_at_call 141; with_reducible refine calls_ext (HL.out _ (SW.out.next (ext_below _ _))))))
              refine wpQuiet_nil ?_
              refine wpV_make' rfl rfl (fun x hx => makesAt_mono (makes_one _ _ rfl rfl x) fun v x' ⟨g, p1, p2, p3⟩ => ⟨g, p1, Nat.le_trans (big x hx) p2, p3⟩) ?_
              rw [e1]
              go_simp
              refine wpV_nil ?_
              intro w3 hb3 hfacts _
              obtain ⟨g2, q3, _, r3⟩ := hfacts 5 (by omega) rfl
              have eg : g2 = h1 := by rw [e1] at q3; simp at q3; exact q3.symm
              subst eg
              have gk := GE.out.keep hb3
              refine wpList_append_lies _ rfl _ _ _ rfl D 3 i0 _ 1 8 Try.underlying23 hi hz0 hz1 hz2 rfl (by omega) v2 k _ rfl gk.o2 ⟨g2, 0, none⟩ 1 1 _ rfl rfl (World.news_of_block r3) (by simp [Value.oneCell']) (by omega) hkk hbt (Nat.le_trans hDw hb3.size) _ rfl ?_
              intro gg cap w7 hown7 hgrow7 hat7 _
              have nn : v2.ownBlock ≠ some D := GE.out.n2
              have ff : w7.frozen? ⟨D, 2, none⟩ = false := by rw [hgrow7.frozen_far _ gk.box.lt (Ne.symm nn)]; exact gk.box.frozen 2
              have cc : w7.cell? ⟨D, 2, none⟩ = some v2 := by rw [hgrow7.cell_far _ gk.box.lt (Ne.symm nn)]; exact gk.box.cell 2
              obtain ⟨gp, bp⟩ := gk.put2 hown7 hgrow7 hat7
              have RA := Lib.hid ((RA.out.next hb3).rest (p := ⟨D, 2, none⟩) (u := .slice (some ⟨gg, 0, none⟩) (k + 1) cap) hgrow7 na (Nat.ne_of_gt da0))
              have RB := Lib.hid ((RB.out.next hb3).rest (p := ⟨D, 2, none⟩) (u := .slice (some ⟨gg, 0, none⟩) (k + 1) cap) hgrow7 nb (Nat.ne_of_gt db0))
              go_wp2_with (fail)
              have GP := Lib.hid gp
              have BP := Lib.hid (BE.out.trans ((hb3.mono hDw).trans bp))
              clear gp bp hown7 hgrow7 hat7 ff cc gk hb3 hfacts q3 r3 cA nn cW big hW1 hvs e1 SI GE BE na nb HL
              obtain ⟨we, hwe⟩ : ∃ we, w7.setCell ⟨D, 2, none⟩ (.slice (some ⟨gg, 0, none⟩) (k + 1) cap) = we := ⟨_, rfl⟩
              rw [hwe] at GP BP RA RB ⊢
              clear hwe
              have FQ := Lib.hid ((FW.out.below BP.out (Nat.le_of_lt hz)).more (B' := we.heap.size) (Nat.le_of_lt (Nat.lt_trans hz GP.out.box.lt)))
              have hDe : D ≤ we.heap.size := Nat.le_of_lt GP.out.box.lt
              go_upto_region 18 with (fail)
              refine wp_region_makersD 10 remMk (RemPhi D d n N) (RemSh d) (rem0 d) probe (by kernel_rfl) (by kernel_rfl) RemPhi_stable (fun i v x _ => RemSh_of i v x) (fun i _ => RemSh_zero d i) ?_
              intro W1 hW1 vs hvs
              obtain ⟨g6, k6, e6⟩ := (hvs 6 rfl).p6 rfl
              obtain ⟨x8, e8⟩ := (hvs 8 rfl).p8 rfl
              obtain ⟨g9, e9⟩ := (hvs 9 rfl).p9 rfl
              have cW : ∃ x, extC W1 x := ⟨W1, extC_of (Below.refl _ _)⟩
              have big : ∀ x, extC W1 x → D ≤ x.heap.size := fun x ⟨u, hu⟩ => by rw [hu]; exact Nat.le_trans hDe (Nat.le_trans hW1.size (ext_size W1 u))
              have kx : ∀ x, extC W1 x → Below we.heap.size we x := fun x ⟨u, hu⟩ => by rw [hu]; exact hW1.trans ((ext_below W1 u).mono hW1.size)
              have cA := (GP.out.keep hW1).box.cell 3
              simp at cA
              simp only [List.take_succ_cons, List.take_zero, List.drop_succ_cons, List.drop_zero]
              refine wpV_quietD cW 6 0 _ _ (by decide) (by decide) ?_
              simp only [List.take_succ_cons, List.take_zero, List.drop_succ_cons, List.drop_zero]
              repeat (go_big_quiet_step (fail))
              refine wpQuiet_nil ?_
              refine wpV_make_D rfl rfl (fun x hx _ => ?_) ?_
              · unfold makesAtD
                go_simp
                refine ⟨rfl, (l1Rest_any n d (some ⟨ga, 0, none⟩) (some ⟨gb, 0, none⟩) F ka kb cf Za Zb f x hn (by omega) hd hd' (RA.out.next (kx x hx)) (RB.out.next (kx x hx)) (FQ.out.next (kx x hx)) da db rf).mono ?_⟩
                rintro _ x' ⟨Z', rfl, zl, zr, zi, hb⟩
                refine ⟨_, rfl, hb, ⟨fun _ => ⟨_, _, Z', rfl, zr, big x hx, zi⟩, fun e => absurd e (by decide), fun e => absurd e (by decide)⟩, fun b hbb => ?_⟩
                simp [blocksOf] at hbb
                subst hbb
                obtain ⟨_, _, _, hlt', _⟩ := zi.at_ hd
                rename_i e9' _
                injection e9' with e9'
                injection e9' with e91 _
                subst e91
                exact ⟨Nat.le_refl _, hlt'⟩
              rw [e6]
              go_simp
              refine wpV_quietD cW 1 7 _ _ (by decide) (by decide) ?_
              simp only [List.take_succ_cons, List.take_zero, List.drop_succ_cons, List.drop_zero]
              repeat (go_big_quiet_step (fail))
              refine wpQuiet_nil ?_
              refine wpV_make_D rfl rfl (fun x hx hdep => ?_) ?_
              · obtain ⟨g', c', Z', q, zr, _, zi⟩ := (hdep ⟨6, .data⟩ (by simp) rfl rfl).p6 rfl
                rw [e6] at q
                simp at q
                obtain ⟨rfl, rfl⟩ := q
                have zl := zi.1
                have zn := numQ_lt hn Z' zr
                rw [zl, HNd.out] at zn
                unfold makesAtD
                go_simp
                refine ⟨rfl, (l1Number_any (some ⟨g6, 0, none⟩) d k6 n _ Z' x zi hn (by omega) hd' zr).mono ?_⟩
                rintro _ x' ⟨rfl, rfl⟩
                exact ⟨_, rfl, Below.refl _ _, ⟨fun e => absurd e (by decide), fun _ => ⟨_, rfl, zn.1, zn.2⟩, fun e => absurd e (by decide)⟩, fun b hbb => (by simp [blocksOf] at hbb)⟩
              rw [e8]
              go_simp
              refine wpV_make_D rfl rfl (fun x hx hdep => ?_) ?_
              · obtain ⟨y8, q, y0, y1⟩ := (hdep ⟨8, .data⟩ (by simp) rfl rfl).p8 rfl
                rw [e8] at q
                simp at q
                subst q
                exact makesD_one _ _ rfl rfl x fun w' hblk => ⟨fun e => absurd e (by decide), fun e => absurd e (by decide), fun _ => ⟨_, _, rfl, y0, y1, big x hx, hblk⟩⟩
              rw [e9]
              go_simp
              refine wpV_nilD ?_
              intro w3 hb3 hfacts _
              obtain ⟨g2, y9, q3, y0, y1, _, r3⟩ := (hfacts 9 (by omega) rfl).p9 rfl
              have eg : g2 = g9 := by rw [e9] at q3; simp at q3; exact q3.symm
              subst eg
              have gk := GP.out.keep hb3
              refine wpList_append_lies _ rfl _ _ _ rfl D 3 i0 _ 1 8 Try.underlying23 hi hz0 hz1 hz2 rfl (by omega) v3 k _ rfl gk.o3 ⟨g2, 0, none⟩ 1 1 _ rfl rfl (World.news_of_block r3) (by simp [Value.oneCell']) (by omega) hkk hbt (Nat.le_trans hDe hb3.size) _ rfl ?_
              intro gg' cap' w8 hown8 hgrow8 hat8 _
              have nn : v3.ownBlock ≠ some D := GP.out.n3
              have ff : w8.frozen? ⟨D, 3, none⟩ = false := by rw [hgrow8.frozen_far _ gk.box.lt (Ne.symm nn)]; exact gk.box.frozen 3
              have cc : w8.cell? ⟨D, 3, none⟩ = some v3 := by rw [hgrow8.cell_far _ gk.box.lt (Ne.symm nn)]; exact gk.box.cell 3
              obtain ⟨gp, bp⟩ := gk.put3 hown8 hgrow8 hat8
              go_wp2_with (fail)
              have GQ := Lib.hid gp
              have BQ := Lib.hid (BP.out.trans ((hb3.mono hDe).trans bp))
              clear gp bp hown8 hgrow8 hat8 ff cc gk hb3 hfacts q3 r3 cA nn cW big kx hW1 hvs e6 e8 e9
              obtain ⟨wf, hwf⟩ : ∃ wf, w8.setCell ⟨D, 3, none⟩ (.slice (some ⟨gg', 0, none⟩) (k + 1) cap') = wf := ⟨_, rfl⟩
              rw [hwf] at GQ BQ ⊢
              clear hwf
              go_wp2
              go_roundw
              case rel => exact ⟨k + 1, _, _, X ++ [x1], Y ++ [y9], by omega, by go_num, GQ.out, ⟨by simp [hXl], by simp [hYl], hXr.snoc hnum.1 hnum.2, hYr.snoc y0 y1⟩, BQ.out⟩
              case measure => simp [intOf]; omega
        · have i1 : ¬ (k : Int) < (N : Int) * N := by rw [S3.out]; omega
          have hkm : k = N * N := by omega
          subst hkm
          have hpos : 0 < N * N := Nat.mul_pos hN1 hN1
          obtain ⟨g2, cap2, e2, _, _⟩ := GR.out.o2.form hpos
          obtain ⟨g3, cap3, e3, _, _⟩ := GR.out.o3.form hpos
          subst e2 e3
          have c0 := GR.out.box.cell 0
          have c1 := GR.out.box.cell 1
          have c2 := GR.out.box.cell 2
          have c3 := GR.out.box.cell 3
          have d0 := ZR.out.cell 0
          have d1 := ZR.out.cell 1
          have d2 := ZR.out.cell 2
          have d3 := ZR.out.cell 3
          have f0 := ZR.out.frozen 0
          have f1 := ZR.out.frozen 1
          have f2 := ZR.out.frozen 2
          have f3 := ZR.out.frozen 3
          simp at c0 c1 c2 c3 d0 d1 d2 d3
          go_wp2
          refine bodyPost_ret (v := .agg #[.int .i64 N, .int .i64 (1 % (N : Int)), .slice (some ⟨g2, 0, none⟩) (N * N) cap2, .slice (some ⟨g3, 0, none⟩) (N * N) cap3]) ?_ rfl ⟨_, rfl, X, Y, ?_, hXl, hYl, hXr, hYr, ?_⟩
          · exact results_cell_row Try.results132 _ _ w.heap.size 25 _ (0, 0) _ rfl (store4_blk ZR.out) Try.underlying25 rfl (by kernel_rfl)
          · have := (GR.out.result ZR.out (by decide)).mono (Nat.le_of_lt hz)
            exact this
          · exact store4_below (B0.out.trans (BR.out.mono (Nat.le_of_lt hz))) (by omega)

end Go.Proofs.Ytlcpbdbdiahmjaa

