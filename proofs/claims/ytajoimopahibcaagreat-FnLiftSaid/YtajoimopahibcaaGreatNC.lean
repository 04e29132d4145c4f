/- Texts of this seat in one: XS XN XP XQ. -/
import Derived.Test.YtajoimopahibcaaGreatProg
import Derived.Shelf.SlSortCmp.Whole1
import Derived.Shelf.SlSortCmp.NoneTotal
import Derived.Test.YtajoimopahibcaaGreatNA
import Derived.Test.YtajoimopahibcaaGreatMB
import Derived.Sort.Grow
import Derived.Test.YtajoimopahibcaaGreatMV
import Derived.Sort.OwnSortedInts
import Derived.Test.YtajoimopahibcaaGreatNB

/- The library's sort of slices of ints by a function, as this program has it. -/
namespace Go.Proofs.YtajoimopahibcaaGreat
open Go.Shelf
set_option maxRecDepth 100000

def sortL_ren : Go.Shelf.Ren := ⟨fun | 6 => 54 | 15 => 100 | 14 => 99 | 28 => 131 | 29 => 132 | 20 => 123 | 21 => 124 | 22 => 125 | 23 => 126 | 24 => 127 | 25 => 128 | 26 => 129 | 27 => 130 | 46 => 144 | 47 => 145 | 48 => 146 | 49 => 147 | 50 => 148 | 57 => 155 | n => n, fun | 22 => 30 | 24 => 23 | 25 => 68 | 3 => 3 | 39 => 107 | 0 => 0 | 53 => 136 | 55 => 138 | 4 => 4 | 46 => 129 | 45 => 128 | 50 => 133 | 5 => 5 | 9 => 9 | 66 => 145 | 70 => 149 | 76 => 154 | 77 => 155 | n => n, fun | n => n⟩
theorem sortL : Go.Proofs.SlLaysF.n6 Tryz.prog sortL_ren where
  mixed := by kernel_rfl
  f6 := ⟨"slices.SortFunc[[][]int,[]int]", by decide, Tryz.func54.trans (congrArg some (by kernel_rfl))⟩
  f14 := ⟨"slices.pdqsortCmpFunc[[]int]", by decide, Tryz.func99.trans (congrArg some (by kernel_rfl))⟩
  f15 := Tryz.func100.trans (congrArg some (by kernel_rfl))
  f20 := ⟨"slices.insertionSortCmpFunc[[]int]", by decide, Tryz.func123.trans (congrArg some (by kernel_rfl))⟩
  f21 := ⟨"slices.heapSortCmpFunc[[]int]", by decide, Tryz.func124.trans (congrArg some (by kernel_rfl))⟩
  f22 := ⟨"slices.breakPatternsCmpFunc[[]int]", by decide, Tryz.func125.trans (congrArg some (by kernel_rfl))⟩
  f23 := ⟨"slices.choosePivotCmpFunc[[]int]", by decide, Tryz.func126.trans (congrArg some (by kernel_rfl))⟩
  f24 := ⟨"slices.reverseRangeCmpFunc[[]int]", by decide, Tryz.func127.trans (congrArg some (by kernel_rfl))⟩
  f25 := ⟨"slices.partialInsertionSortCmpFunc[[]int]", by decide, Tryz.func128.trans (congrArg some (by kernel_rfl))⟩
  f26 := ⟨"slices.partitionEqualCmpFunc[[]int]", by decide, Tryz.func129.trans (congrArg some (by kernel_rfl))⟩
  f27 := ⟨"slices.partitionCmpFunc[[]int]", by decide, Tryz.func130.trans (congrArg some (by kernel_rfl))⟩
  f28 := Tryz.func131.trans (congrArg some (by kernel_rfl))
  f29 := Tryz.func132.trans (congrArg some (by kernel_rfl))
  f46 := ⟨"slices.siftDownCmpFunc[[]int]", by decide, Tryz.func144.trans (congrArg some (by kernel_rfl))⟩
  f47 := Tryz.func145.trans (congrArg some (by kernel_rfl))
  f48 := Tryz.func146.trans (congrArg some (by kernel_rfl))
  f49 := ⟨"slices.medianAdjacentCmpFunc[[]int]", by decide, Tryz.func147.trans (congrArg some (by kernel_rfl))⟩
  f50 := ⟨"slices.medianCmpFunc[[]int]", by decide, Tryz.func148.trans (congrArg some (by kernel_rfl))⟩
  f57 := ⟨"slices.order2CmpFunc[[]int]", by decide, Tryz.func155.trans (congrArg some (by kernel_rfl))⟩
  t0 := Tryz.underlying0
  a0 := Tryz.isAgg0
  z0 := Tryz.sizeOf0
  v0 := Tryz.zeroValue0
  t3 := Tryz.underlying3
  a3 := Tryz.isAgg3
  z3 := Tryz.sizeOf3
  v3 := Tryz.zeroValue3
  t4 := Tryz.underlying4
  a4 := Tryz.isAgg4
  z4 := Tryz.sizeOf4
  v4 := Tryz.zeroValue4
  t5 := Tryz.underlying5
  a5 := Tryz.isAgg5
  z5 := Tryz.sizeOf5
  v5 := Tryz.zeroValue5
  t9 := Tryz.underlying9
  a9 := Tryz.isAgg9
  z9 := Tryz.sizeOf9
  v9 := Tryz.zeroValue9
  t22 := Tryz.underlying30
  a22 := Tryz.isAgg30
  z22 := Tryz.sizeOf30
  v22 := Tryz.zeroValue30
  a24 := Tryz.isAgg23
  z24 := Tryz.sizeOf23
  t25 := Tryz.underlying68
  a25 := Tryz.isAgg68
  z25 := Tryz.sizeOf68
  v25 := Tryz.zeroValue68
  t39 := Tryz.underlying107
  a39 := Tryz.isAgg107
  z39 := Tryz.sizeOf107
  v39 := Tryz.zeroValue107
  t45 := Tryz.underlying128
  a45 := Tryz.isAgg128
  z45 := Tryz.sizeOf128
  v45 := Tryz.zeroValue128
  t46 := Tryz.underlying129
  a46 := Tryz.isAgg129
  z46 := Tryz.sizeOf129
  v46 := Tryz.zeroValue129
  t50 := Tryz.underlying133
  a50 := Tryz.isAgg133
  z50 := Tryz.sizeOf133
  v50 := Tryz.zeroValue133
  t53 := Tryz.underlying136
  a53 := Tryz.isAgg136
  z53 := Tryz.sizeOf136
  v53 := Tryz.zeroValue136
  t55 := Tryz.underlying138
  a55 := Tryz.isAgg138
  z55 := Tryz.sizeOf138
  v55 := Tryz.zeroValue138
  t66 := Tryz.underlying145
  a66 := Tryz.isAgg145
  z66 := Tryz.sizeOf145
  v66 := Tryz.zeroValue145
  t70 := Tryz.underlying149
  a70 := Tryz.isAgg149
  z70 := Tryz.sizeOf149
  v70 := Tryz.zeroValue149
  t76 := Tryz.underlying154
  a76 := Tryz.isAgg154
  z76 := Tryz.sizeOf154
  v76 := Tryz.zeroValue154
  t77 := Tryz.underlying155
  a77 := Tryz.isAgg155
  z77 := Tryz.sizeOf155
  v77 := Tryz.zeroValue155

end Go.Proofs.YtajoimopahibcaaGreat



/- How the program compares two ideals: by length, and then element by element. -/
namespace Go.Proofs.YtajoimopahibcaaGreat
open Go.RowKit Go.Shelf
set_option maxRecDepth 100000

def compI (x y : Int) : Int := if x < y then -1 else if y < x then 1 else 0
set_option maxHeartbeats 1000000 in
theorem isNaN_any (x : Int) (w : World) : Calls Tryz.prog 101 #[.int .i64 x] w fun e w' => e = .returned (.bool false) ∧ w' = w := by
  go_enter Tryz.func101, Tryz.ntmps101
  go_wp2
  go_ret
  exact ⟨by simp, rfl⟩
set_option maxHeartbeats 2000000 in
theorem compI_any (x y : Int) (w : World) : Calls Tryz.prog 57 #[.int .i64 x, .int .i64 y] w fun e w' => e = .returned (.int .i64 (compI x y)) ∧ w' = w := by
  go_enter Tryz.func57, Tryz.ntmps57
  go_wp2_with (go_at_call 101; refine (isNaN_any _ _).mono ?_; rintro e w' ⟨rfl, hw⟩; rw [hw])
  all_goals (go_ret; refine ⟨?_, rfl⟩; unfold compI; (repeat' split) <;> first | rfl | (exfalso; omega))

theorem lexC_nil {y : List Int} : lexC [] y = if 0 < y.length then -1 else 0 := by
  cases y <;> simp [lexC]
theorem lexC_cut {x : Int} {xs : List Int} : lexC (x :: xs) [] = 1 := rfl
theorem lexC_cons {a b : Int} {x y : List Int} : lexC (a :: x) (b :: y) = if compI a b = 0 then lexC x y else compI a b := by
  unfold compI
  conv => lhs; unfold lexC
  (repeat' split) <;> first | rfl | omega
theorem drop_at {xs : List Int} {j : Nat} (h : j < xs.length) : xs.drop j = xs[j]?.getD 0 :: xs.drop (j + 1) := by
  rw [List.drop_eq_getElem_cons h, List.getElem?_eq_getElem h]; rfl

set_option maxHeartbeats 4000000 in
theorem lexC_any (A B : Option Addr) (n k ca cb : Nat) (xs ys : List Int) (w : World) (C D : Nat) (hA : Ints w C A n xs) (hB : Ints w D B k ys) (hn : n ≤ 9223372036854775807) (_hk : k ≤ 9223372036854775807) :
    Calls Tryz.prog 58 #[.slice A n ca, .slice B k cb] w fun e w' => e = .returned (.int .i64 (lexC xs ys)) ∧ w' = w := by
  have HA := Lib.hid hA
  have HB := Lib.hid hB
  clear hA hB
  go_enter Tryz.func58, Tryz.ntmps58
  go_wp2
  go_loopg [11] n (fun g2 vi wr => ∃ j : Nat, j ≤ n ∧ n ≤ j + g2 ∧ vi = .int .i64 j ∧ lexC xs ys = lexC (xs.drop j) (ys.drop j) ∧ j ≤ k ∧ wr = w)
  case atStart => exact ⟨0, Nat.zero_le _, by omega, rfl, by rw [List.drop_zero, List.drop_zero], Nat.zero_le _, rfl⟩
  case round =>
    obtain ⟨j, hj, hg, rfl, hx, hjk, rfl⟩ := hrel
    have HX := Lib.hid hx
    clear hx
    by_cases hlt : j < n
    · obtain ⟨b1, o1, rfl, _, hc1⟩ := HA.out.at_ hlt
      have hd1 := drop_at (xs := xs) (j := j) (by rw [HA.out.1]; exact hlt)
      by_cases hlk : j < k
      · obtain ⟨b2, o2, rfl, _, hc2⟩ := HB.out.at_ hlk
        have hd2 := drop_at (xs := ys) (j := j) (by rw [HB.out.1]; exact hlk)
        obtain ⟨x, hx⟩ : ∃ x, xs[j]?.getD 0 = x := ⟨_, rfl⟩
        obtain ⟨y, hy⟩ : ∃ y, ys[j]?.getD 0 = y := ⟨_, rfl⟩
        rw [hx] at hc1 hd1
        rw [hy] at hc2 hd2
        obtain ⟨c, hc⟩ : ∃ c, compI x y = c := ⟨_, rfl⟩
        have HC := Lib.hid hc
        have HST := Lib.hid (show lexC xs ys = if c = 0 then lexC (xs.drop (j + 1)) (ys.drop (j + 1)) else c by rw [HX.out, hd1, hd2, lexC_cons, hc])
        clear hx hy hc hd1 hd2
        by_cases h0 : c = 0
        · subst h0
          have HS0 := Lib.hid (show lexC xs ys = lexC (xs.drop (j + 1)) (ys.drop (j + 1)) by rw [HST.out, if_pos rfl])
          go_wp2_with (go_at_call 57; refine (compI_any x y _).mono ?_; rw [HC.out]; rintro e3 w3 ⟨rfl, rfl⟩)
          go_roundg (n - (j + 1))
          case measure => omega
          case rel => exact ⟨j + 1, by omega, by omega, by go_num, HS0.out, by omega, rfl⟩
        · have HS0 := Lib.hid (show lexC xs ys = c by rw [HST.out, if_neg h0])
          have t0 : (c != 0) = true := by rw [bne_iff_ne]; exact h0
          clear h0
          go_wp2_with (go_at_call 57; refine (compI_any x y _).mono ?_; rw [HC.out]; rintro e3 w3 ⟨rfl, rfl⟩)
          go_ret
          exact ⟨by rw [HS0.out]; rfl, rfl⟩
      · have HS0 := Lib.hid (show lexC xs ys = 1 by rw [HX.out, hd1, show ys.drop j = [] from List.drop_eq_nil_of_le (by rw [HB.out.1]; omega), lexC_cut])
        have t1 : (k : Int) ≤ (j : Int) := by omega
        clear hd1
        go_wp2
        go_ret
        exact ⟨by rw [HS0.out]; rfl, rfl⟩
    · obtain rfl : j = n := by omega
      by_cases hlk : j < k
      · have HS0 := Lib.hid (show lexC xs ys = -1 by rw [HX.out, List.drop_eq_nil_of_le (by rw [HA.out.1]; exact Nat.le_refl _), lexC_nil, if_pos (by rw [List.length_drop, HB.out.1]; omega)])
        have t1 : (j : Int) < (k : Int) := by omega
        go_wp2
        go_ret
        exact ⟨by rw [HS0.out]; rfl, rfl⟩
      · have HS0 := Lib.hid (show lexC xs ys = 0 by rw [HX.out, List.drop_eq_nil_of_le (by rw [HA.out.1]; exact Nat.le_refl _), lexC_nil, if_neg (by rw [List.length_drop, HB.out.1]; omega)])
        have t1 : ¬ (j : Int) < (k : Int) := by omega
        go_wp2
        go_ret
        exact ⟨by rw [HS0.out]; rfl, rfl⟩

set_option maxHeartbeats 2000000 in
theorem or2_any (g ca : Nat) (a b c : Int) (w : World) (hc : (if a = 0 then b else a) = c) (h0 : w.cell? ⟨g, 0, none⟩ = some (.int .i64 a)) (h1 : w.cell? ⟨g, 1, none⟩ = some (.int .i64 b)) :
    Calls Tryz.prog 56 #[.slice (some ⟨g, 0, none⟩) 2 ca] w fun e w' => e = .returned (.int .i64 c) ∧ w' = w := by
  have H0 := Lib.hid h0
  have H1 := Lib.hid h1
  have HC := Lib.hid hc
  clear h0 h1 hc
  go_enter Tryz.func56, Tryz.ntmps56
  go_wp2
  go_loopg [8] 2 (fun g2 vi wr => ∃ j : Nat, j ≤ 2 ∧ 2 ≤ j + g2 ∧ vi = .int .i64 j ∧ Hid (0 < j → a = 0) ∧ Hid (1 < j → b = 0) ∧ wr = w)
  case atStart => exact ⟨0, by omega, by omega, rfl, Lib.hid fun h => absurd h (by omega), Lib.hid fun h => absurd h (by omega), rfl⟩
  case round =>
    obtain ⟨j, hj, hg, rfl, HA, HB, rfl⟩ := hrel
    by_cases hj0 : j = 0
    · subst hj0
      have hc := H0.out
      by_cases h : a = 0
      · have HZ := Lib.hid h
        subst h
        go_wp2
        go_roundg 1
        case measure => omega
        case rel => exact ⟨1, by omega, by omega, by go_num, Lib.hid fun _ => HZ.out, Lib.hid fun h => absurd h (by omega), rfl⟩
      · have t : (a != 0) = true := by rw [bne_iff_ne]; exact h
        have HS := Lib.hid (show a = c by rw [← HC.out, if_neg h])
        clear h
        go_wp2
        go_ret
        exact ⟨by rw [← HS.out]; rfl, rfl⟩
    · by_cases hj1 : j = 1
      · subst hj1
        have hc := H1.out
        have HS := Lib.hid (show b = c by rw [← HC.out, if_pos (HA.out (by omega))])
        by_cases h : b = 0
        · have HZ := Lib.hid h
          subst h
          go_wp2
          go_roundg 0
          case measure => omega
          case rel => exact ⟨2, by omega, by omega, by go_num, Lib.hid fun _ => HA.out (by omega), Lib.hid fun _ => HZ.out, rfl⟩
        · have t : (b != 0) = true := by rw [bne_iff_ne]; exact h
          clear h
          go_wp2
          go_ret
          exact ⟨by rw [← HS.out]; rfl, rfl⟩
      · obtain rfl : j = 2 := by omega
        have HS := Lib.hid (show 0 = c by rw [← HC.out, if_pos (HA.out (by omega)), HB.out (by omega)])
        go_wp2
        go_ret
        exact ⟨by rw [← HS.out]; rfl, rfl⟩

theorem cmpL_or {x y : List Int} : (if compI (x.length : Int) (y.length : Int) = 0 then lexC x y else compI (x.length : Int) (y.length : Int)) = cmpL x y := by
  rw [cmpL_lex, lexC_cons]

set_option maxHeartbeats 2000000 in
theorem cmpF_any (A B : Option Addr) (n k ca cb : Nat) (xs ys : List Int) (w : World) (C D : Nat) (hA : Ints w C A n xs) (hB : Ints w D B k ys) (hn : n ≤ 9223372036854775807) (hk : k ≤ 9223372036854775807) :
    Calls Tryz.prog 55 #[.slice A n ca, .slice B k cb] w fun e w' => e = .returned (.int .i64 (cmpL xs ys)) ∧ ∃ q os, w' = Go.Sort.grow (w.drewN q) os := by
  have HA := Lib.hid hA
  have HB := Lib.hid hB
  obtain ⟨c1, hc1⟩ : ∃ c, compI (n : Int) (k : Int) = c := ⟨_, rfl⟩
  obtain ⟨c2, hc2⟩ : ∃ c, lexC xs ys = c := ⟨_, rfl⟩
  have H1 := Lib.hid hc1
  have H2 := Lib.hid hc2
  have HV := Lib.hid (show (if c1 = 0 then c2 else c1) = cmpL xs ys by rw [← hc1, ← hc2, ← cmpL_or, hA.1, hB.1])
  clear hA hB hc1 hc2
  go_enter Tryz.func55, Tryz.ntmps55
  go_wp2_with (first
    | (go_at_call 57; refine (compI_any (n : Int) (k : Int) _).mono ?_; rw [H1.out]; rintro e3 w3 ⟨rfl, hw3⟩; rw [hw3]; clear hw3)
    | (go_at_call 58; refine (lexC_any A B n k ca cb xs ys _ _ _ HA.out HB.out hn hk).mono ?_; rw [H2.out]; rintro e4 w4 ⟨rfl, hw4⟩; rw [hw4]; clear hw4)
    | (go_at_call 56; refine (or2_any w.heap.size 2 c1 c2 _ _ HV.out ?_ ?_).mono ?_))
  · exact (Blk.new w 3 #[.int .i64 c1, .int .i64 c2]).cell 0
  · exact (Blk.new w 3 #[.int .i64 c1, .int .i64 c2]).cell 1
  · rintro e5 w5 ⟨rfl, hw5⟩
    rw [hw5]
    go_wp2
    go_ret
    exact ⟨rfl, 0, #[.cells #[.int .i64 c1, .int .i64 c2] 3], Go.Sort.alloc_eq_grow w _⟩

end Go.Proofs.YtajoimopahibcaaGreat



/- The program's sort of a slice of slices, each in a block of its own. -/
namespace Go.Proofs.YtajoimopahibcaaGreat
open Go.RowKit Go.Shelf
set_option maxRecDepth 100000

section
variable {α : Type} [Inhabited α] {enc : α → Value}
theorem heap_sortedA {w : World} {g n : Nat} {os : Array Obj} {cur : Array Value} {e : TypeId} {fr : Nat × Nat} (d : Array α) (hb : w.heap[g]? = some (.cells cur e fr)) :
    (Go.Sort.grow (Go.Sort.putRow enc (Go.Sort.ahead w n) g 0 d) os).heap[g]? = some (.cells (Go.Sort.putCells enc 0 d cur) e fr) := by
  have hg : g < w.heap.size := (Array.getElem?_eq_some_iff.1 hb).1
  rw [Go.Sort.heap_grow_old _ _ (by simpa using hg)]
  simp [Go.Sort.putRow, Go.Sort.mapBlock, Go.Sort.ahead, Array.getElem?_modify, hb, Go.Sort.onCells]
theorem grownBy_sortedA {w : World} {g n : Nat} {os : Array Obj} (d : Array α) : w.grownBy (Go.Sort.grow (Go.Sort.putRow enc (Go.Sort.ahead w n) g 0 d) os) (some g) := by
  refine ⟨rfl, rfl, rfl, by simp, fun k hk hne => ?_⟩
  rw [Go.Sort.heap_grow_old _ _ (by simpa using hk)]
  have : g ≠ k := fun e => hne (by rw [e])
  simp [Go.Sort.putRow, Go.Sort.mapBlock, Go.Sort.ahead, Array.getElem?_modify, this]
theorem take_putCellsA (cur : Array Value) (d : Array α) (h : d.size ≤ cur.size) : (Go.Sort.putCells enc 0 d cur).toList.take d.size = d.toList.map enc := by
  apply List.ext_getElem?
  intro j
  by_cases hj : j < d.size
  · rw [List.getElem?_take_of_lt hj, Array.getElem?_toList]
    simp [Go.Sort.putCells, hj, show j < cur.size by omega]
  · rw [List.getElem?_take_eq_none (by omega), List.getElem?_eq_none (by simp; omega)]
end

def encX (xs : List Value) (i : Nat) : Value := (xs[i]?).getD (.slice none 0 0)
def cfX (ZZ : List (List Int)) (i j : Nat) : Int := cmpL (fZ ZZ i) (fZ ZZ j)
theorem ltX {ZZ : List (List Int)} {i j : Nat} : ltOf (cfX ZZ) i j = befB (fZ ZZ i) (fZ ZZ j) := rfl
theorem swoX (ZZ : List (List Int)) : Go.Sort.SWO (ltOf (cfX ZZ)) where
  irrefl x := by rw [ltX]; exact bef_irr
  trans x y z h1 h2 := by rw [ltX] at *; exact bef_trans h1 h2
  ntrans x y z h1 h2 := by
    rw [ltX] at *
    cases h : befB (fZ ZZ x) (fZ ZZ z)
    · rfl
    · by_cases e : fZ ZZ y = fZ ZZ z
      · rw [← e, h1] at h; cases h
      · have := bef_trans h (bef_tri h2 e)
        rw [h1] at this; cases this
theorem encX_one {D : Nat} {w : World} {row : Option Nat} {xs : List Value} {ZZ : List (List Int)} (h : LLs D w row xs ZZ) (i : Nat) : (encX xs i).oneCell' = true := by
  unfold encX
  by_cases hi : i < ZZ.length
  · obtain ⟨B, l, c, e1, _⟩ := h.2 i _ (List.getElem?_eq_getElem hi)
    rw [e1]; rfl
  · rw [List.getElem?_eq_none (by rw [h.1]; omega)]; rfl
/-- Each element is a slice that can be read, in whatever world that differs in the row alone. -/
theorem encX_ints {D g : Nat} {w w' : World} {xs : List Value} {ZZ : List (List Int)} (h : LLs D w (some g) xs ZZ) (hg : w.grownBy w' (some g)) (i : Nat) : ∃ B l c, encX xs i = .slice B l c ∧ Ints w' w'.heap.size B l (fZ ZZ i) ∧ l ≤ 9223372036854775807 := by
  by_cases hi : i < ZZ.length
  · obtain ⟨B, l, c, e1, e2, e3, e4, e5⟩ := h.2 i _ (fZ_get hi)
    exact ⟨B, l, c, by unfold encX; rw [e1]; rfl, (e2.grown_ hg e5).ints, by omega⟩
  · refine ⟨none, 0, 0, by unfold encX; rw [List.getElem?_eq_none (by rw [h.1]; omega)]; rfl, ?_, by omega⟩
    have e : fZ ZZ i = [] := by unfold fZ; rw [List.getElem?_eq_none (by omega)]; rfl
    rw [e]
    exact ⟨rfl, fun h => absurd h (by omega)⟩

theorem range_fZ {ZZ : List (List Int)} : (List.range ZZ.length).map (fZ ZZ) = ZZ := by
  apply List.ext_getElem?
  intro i
  rw [List.getElem?_map]
  by_cases hi : i < ZZ.length
  · rw [List.getElem?_range hi, Option.map_some, ← fZ_get hi]
  · rw [List.getElem?_eq_none (by simpa using hi), List.getElem?_eq_none (by omega)]; rfl

set_option maxHeartbeats 4000000 in
theorem sortSS_any (D : Nat) (v : Value) (ZZ : List (List Int)) (w : World) (hq : LLq D w v ZZ) (hn : 1 ≤ ZZ.length) (hb : ZZ.length ≤ 100000) (hnd : ZZ.Nodup) :
    Calls Tryz.prog 54 #[v, .func (.func 55) #[] #[]] w fun e w' => e = .returned (.tuple #[]) ∧ ∃ ZZ', LLq D w' v ZZ' ∧ Srt ZZ' ∧ (∀ l, l ∈ ZZ' ↔ l ∈ ZZ) ∧ ZZ'.length = ZZ.length ∧ w.grownBy w' v.ownBlock := by
  obtain ⟨xs, ho, hl, hp⟩ := hq
  rcases ho.2 with ⟨_, h0⟩ | ⟨g, cap, cur, rfl, hD, hc, hcap, hmx, hsz, htk⟩
  · omega
  have hB : Blk w g 23 cur := hc
  have hl' : LLs D w (some g) xs ZZ := hl
  obtain ⟨n, hnn⟩ : ∃ n, ZZ.length = n := ⟨_, rfl⟩
  have hxl : xs.length = n := by rw [hl.1, hnn]
  have eg : ∀ args w, (callFunc 55 args).run Tryz.prog w = .ok (.enter 55 args) w := enters_of Tryz.func55 (by kernel_rfl) rfl
  have hds : (Array.range n).size = n := by simp
  have hcmp : CmpLays1 Tryz.prog 55 #[] (encX xs) (cfX ZZ) g 0 (Array.range n).size w := fun m os dk _ x y => by
    obtain ⟨B, l, c, e1, i1, b1⟩ := encX_ints hl' (grownBy_sortedA (enc := encX xs) (n := m) (os := os) dk) x
    obtain ⟨B', l', c', e2, i2, b2⟩ := encX_ints hl' (grownBy_sortedA (enc := encX xs) (n := m) (os := os) dk) y
    rw [e1, e2]
    exact cmpF_any B B' l l' c c' (fZ ZZ x) (fZ ZZ y) _ _ _ i1 i2 b1 b2
  have hH : Go.Sort.Holds (encX xs) w g 0 (Array.range n) := fun j hj => by
    rw [hds] at hj
    refine ⟨?_, hB.frozen _⟩
    rw [Nat.zero_add, hB.cell]
    have e1 : (Array.range n)[j]! = j := by rw [getElem!_pos _ j (by rw [hds]; exact hj)]; simp
    have e2 : cur.toList[j]? = xs[j]? := by rw [← htk, List.getElem?_take, if_pos (by omega)]
    rw [e1, ← Array.getElem?_toList, e2]
    unfold encX
    rw [List.getElem?_eq_getElem (by omega)]
    rfl
  have hcon := Any.slices_SortFunc sortL (encX xs) (fun i => encX_one hl' i) (cfX ZZ) (swoX ZZ) 55 #[] g 0 cap (Array.range n) w eg hcmp hH hB.lt (by rw [hds]; omega)
  rw [hds] at hcon
  rw [hnn]
  refine Calls.mono (show Calls Tryz.prog 54 _ _ _ from hcon) ?_
  rintro e w' ⟨rfl, d', n', os, ⟨hs1, _, hperm⟩, hsrt, rfl⟩
  rw [hds] at hs1
  have hx1 : d'.extract 0 n = d' := by rw [← hs1]; exact Array.extract_size
  have hx2 : (Array.range n).extract 0 n = Array.range n := by
    have := Array.extract_size (xs := Array.range n)
    rwa [hds] at this
  rw [hx1, hx2] at hperm
  have hpl : d'.toList.Perm (List.range n) := by simpa using hperm
  have hmem : ∀ i, i ∈ d'.toList ↔ i < n := fun i => by rw [hpl.mem_iff]; simp
  have hnod : d'.toList.Nodup := hpl.nodup_iff.2 List.nodup_range
  have hlen : d'.toList.length = n := by rw [Array.length_toList, hs1]
  have hgb := grownBy_sortedA (enc := encX xs) (w := w) (g := g) (n := n') (os := os) d'
  have hget : ∀ i, i < n → ∃ k, d'.toList[i]? = some k ∧ k < n := fun i hi => by
    refine ⟨d'.toList[i]'(by omega), List.getElem?_eq_getElem (by omega), (hmem _).1 (List.getElem_mem _)⟩
  refine ⟨rfl, d'.toList.map (fZ ZZ), ⟨d'.toList.map (encX xs), ?_, ⟨by simp, fun i Z hZ => ?_⟩, fun i j B l c B' l' c' hij h1 h2 => ?_⟩, ?_, fun l => ?_, by simpa using hs1, hgb⟩
  · rw [List.length_map, hlen]
    refine ⟨by simp [hs1], .inr ⟨g, cap, _, rfl, hD, heap_sortedA d' hc, by omega, hmx, by simp [Go.Sort.putCells, hsz], ?_⟩⟩
    have := take_putCellsA (enc := encX xs) cur d' (by rw [hs1, hsz]; omega)
    rwa [hs1, ← Nat.mul_one n] at this
  · have hi : i < n := by have := (List.getElem?_eq_some_iff.1 hZ).1; simpa [hs1] using this
    obtain ⟨k, hk1, hk2⟩ := hget i hi
    rw [List.getElem?_map, hk1] at hZ
    simp only [Option.map_some, Option.some.injEq] at hZ
    subst hZ
    obtain ⟨B, l, c, e1, e2, e3, e4, e5⟩ := hl'.2 k _ (fZ_get (by omega))
    refine ⟨B, l, c, by rw [List.getElem?_map, hk1, Option.map_some]; unfold encX; rw [e1]; rfl, e2.grown_ hgb e5, e3, e4, e5⟩
  · have hi : i < n := by have := (List.getElem?_eq_some_iff.1 h1).1; simpa [hs1] using this
    have hj : j < n := by have := (List.getElem?_eq_some_iff.1 h2).1; simpa [hs1] using this
    obtain ⟨k, hk1, hk2⟩ := hget i hi
    obtain ⟨k', hk1', hk2'⟩ := hget j hj
    have hkk : k ≠ k' := fun e => by
      subst e
      have a1 : i < d'.toList.length := by omega
      have a2 : j < d'.toList.length := by omega
      rw [List.getElem?_eq_getElem a1] at hk1
      rw [List.getElem?_eq_getElem a2] at hk1'
      exact hij ((List.getElem_inj hnod).1 (Option.some.inj (hk1.trans hk1'.symm)))
    rw [List.getElem?_map, hk1, Option.map_some] at h1
    rw [List.getElem?_map, hk1', Option.map_some] at h2
    have a1 : xs[k]? = some (Value.slice B l c) := by
      unfold encX at h1
      rw [List.getElem?_eq_getElem (by omega)] at h1 ⊢
      simpa using h1
    have a2 : xs[k']? = some (Value.slice B' l' c') := by
      unfold encX at h2
      rw [List.getElem?_eq_getElem (by omega)] at h2 ⊢
      simpa using h2
    exact hp k k' B l c B' l' c' hkk a1 a2
  · unfold Srt
    rw [List.pairwise_map, List.pairwise_iff_getElem]
    intro i j hi hj hij
    have hsij := hsrt i j (Nat.zero_le _) hij (by omega)
    rw [ltX, getElem!_pos d' j (by omega), getElem!_pos d' i (by omega)] at hsij
    refine bef_tri (by simpa using hsij) fun e => ?_
    have k1 : d'.toList[i] < n := (hmem _).1 (List.getElem_mem _)
    have k2 : d'.toList[j] < n := (hmem _).1 (List.getElem_mem _)
    have f1 : fZ ZZ d'.toList[i] = ZZ[d'.toList[i]] := by unfold fZ; rw [List.getElem?_eq_getElem (by omega)]; rfl
    have f2 : fZ ZZ d'.toList[j] = ZZ[d'.toList[j]] := by unfold fZ; rw [List.getElem?_eq_getElem (by omega)]; rfl
    rw [f1, f2] at e
    have e2 := (List.getElem_inj hnd).1 e
    have e3 := (List.getElem_inj hnod).1 e2
    omega
  · have h1 := (hpl.map (fZ ZZ)).mem_iff (a := l)
    rw [← hnn, range_fZ] at h1
    exact h1

end Go.Proofs.YtajoimopahibcaaGreat



/- AllIdeals of the program. -/
namespace Go.Proofs.YtajoimopahibcaaGreat
open Go.RowKit Go.Shelf
set_option maxRecDepth 100000

theorem map_one {m k : Nat} {As : List (Nat → Bool)} {r : Nat → Bool} (h : As[k]? = some r) : (As.take (k + 1)).map (lstP m) = (As.take k).map (lstP m) ++ [lstP m r] := by
  have hk := (List.getElem?_eq_some_iff.1 h).1
  rw [List.take_succ_eq_append_getElem hk, List.map_append, List.map_singleton]
  rw [List.getElem?_eq_getElem hk] at h
  simp only [Option.some.injEq] at h
  rw [h]

set_option maxHeartbeats 8000000 in
theorem als_any (n o : Int) (A B : Option Addr) (la ca lb cb : Nat) (X Y : List Int) (w : World) (hX : Ints w w.heap.size A la X) (hY : Ints w w.heap.size B lb Y) (hla : la ≤ 9223372036854775807) (hlb : lb ≤ 9223372036854775807) (hca : la ≤ ca) (hcb : lb ≤ cb) :
    Calls Tryz.prog 15 #[.agg #[.int .i64 n, .int .i64 o, .slice A la ca, .slice B lb cb]] w fun e' w' => ∃ v, e' = .returned v ∧ LLq w.heap.size w' v (alsL n o X Y) ∧ Below w.heap.size w w' := by
  obtain ⟨i0, hi, hz0, hz1, hz2⟩ := info_parts sl_info
  obtain ⟨W, hW⟩ : ∃ W, w.alloc (.cells #[.int .i64 n, .int .i64 o, .slice A la ca, .slice B lb cb] 25) = W := ⟨_, rfl⟩
  have k0 : Blk W w.heap.size 25 #[.int .i64 n, .int .i64 o, .slice A la ca, .slice B lb cb] := by
    subst hW; exact Blk.new w _ _
  have b0 : Below w.heap.size w W := by
    subst hW; exact (Below.refl _ _).alloc (Nat.le_refl _) _
  obtain ⟨c0, c1, c2, c3⟩ := blk4 k0
  have HX := Lib.hid (hX.next b0)
  have HY := Lib.hid (hY.next b0)
  have K0 := Lib.hid k0
  have B0 := Lib.hid b0
  have HW := Lib.hid hW
  have hs0 := k0.lt
  clear k0 hW
  cases hv : validB n o X Y
  · have hz := Lib.hid (als_no (n := n) (o := o) (X := X) (Y := Y) (by rw [hv]; simp))
    have HV := Lib.hid hv
    clear hX hY b0 hv
    go_enter Tryz.func15, Tryz.ntmps15
    go_wp2_with (fail)
    rw [HW.out]
    refine (valid_any n o A B la ca lb cb X Y W HX.out HY.out hla hlb hca hcb).mono ?_
    rw [HV.out]
    rintro e1 w1 ⟨rfl, hb1⟩
    have B1 := Lib.hid (below_step B0.out hb1)
    clear hb1 c0 c1 c2 c3
    go_wp2
    go_ret
    exact ⟨.slice none 0 0, by rfl, by rw [hz.out]; exact LLq.nil, B1.out⟩
  · obtain ⟨m, e, b1, o1, b2, o2, rfl, rfl, rfl, rfl, hr, _, _, _, _, _⟩ := valid_data hv hX hY hca hcb
    have HR := Lib.hid (hr.next b0)
    have HV := Lib.hid hv
    have hz := Lib.hid (als_yes hv)
    have RR := Lib.hid (rtab_of_valid hv)
    have hm' := hr.hm'
    have hm := hr.hm
    clear hX hY b0 hv hr
    go_enter Tryz.func15, Tryz.ntmps15
    go_wp2_with (fail)
    rw [HW.out]
    refine (valid_any m e _ _ la ca lb cb X Y W HX.out HY.out hla hlb hca hcb).mono ?_
    rw [HV.out]
    rintro e1 w1 ⟨rfl, hb1⟩
    have B1 := Lib.hid (below_step B0.out hb1)
    obtain ⟨d0, d1, d2, d3⟩ := blk4 (K0.out.next hb1)
    have K1 := Lib.hid (K0.out.next hb1)
    have R1 := Lib.hid (HR.out.next hb1)
    clear hb1 c0 c1 c2 c3
    go_upto_region 4 with (fail)
    go_wp2_with (fail)
    refine (ideals_any m e b1 o1 la ca b2 o2 lb cb (tabOf X) (tabOf Y) w1 R1.out RR.out).mono ?_
    rintro e2 w2 ⟨v, As, rfl, ho, hnd, hall, hb2⟩
    have B2 := Lib.hid (below_step B1.out hb2)
    have K2 := Lib.hid (K1.out.next hb2)
    have R2 := Lib.hid (R1.out.next hb2)
    have HND := Lib.hid hnd
    have HALL := Lib.hid hall
    have hsh : As.length ≤ 32768 := idls_short hm' hnd fun p hp => (hall p).1 hp
    have hpos : 1 ≤ As.length := List.length_pos_of_mem ((hall _).2 (RR.out.mul_idl hm))
    obtain ⟨gI, cI, rfl, cur, hcur, htk⟩ : ∃ g c, v = .slice (some ⟨g, 0, none⟩) As.length c ∧ ∃ cur, Blk w2 g 50 cur ∧ cur.toList.take (As.length * 16) = setsV As := by
      rcases ho.2 with ⟨_, h0⟩ | ⟨g, c, cur, e, _, h3, _, _, _, h6⟩
      · omega
      · exact ⟨g, c, e, cur, h3, h6⟩
    have SN := Lib.hid (show ∀ i, i < As.length * 16 → w2.cell? ⟨gI, i, none⟩ = (setsV As)[i]? from fun i hi => by rw [hcur.cell, ← Array.getElem?_toList, ← htk, List.getElem?_take, if_pos hi])
    have lgI := hcur.lt
    obtain ⟨Bs, hBs⟩ : ∃ b, w2.heap.size = b := ⟨_, rfl⟩
    have HBS := Lib.hid hBs
    obtain ⟨nl, hnl⟩ : ∃ x, As.length = x := ⟨_, rfl⟩
    have HNL := Lib.hid hnl
    rw [hnl] at hsh hpos SN ⊢
    rw [hBs] at lgI
    have hsW : w.heap.size ≤ Bs := by rw [← hBs]; exact B2.out.size
    have OE := Lib.hid (LLq.nil (D := Bs) (w := w2))
    have lr2 := K2.out.lt
    rw [hBs] at lr2
    clear hb2 ho hnd hall hcur htk hnl hBs d0 d1 d2 d3
    go_wp2
    go_loopg [3, 12] nl (fun g2 vs vi wr => ∃ y : Nat, y ≤ nl ∧ nl ≤ y + g2 ∧ vi = .int .i64 y ∧ LLq Bs wr vs ((As.take y).map (lstP m)) ∧ Below Bs w2 wr)
    case atStart => exact ⟨0, Nat.zero_le _, by omega, rfl, by rw [List.take_zero, List.map_nil]; exact OE.out, Below.refl _ _⟩
    case round =>
      obtain ⟨y, hy, hg2, rfl, hown, hb⟩ := hrel
      have hsz : Bs ≤ wr.heap.size := by rw [← HBS.out]; exact hb.size
      have OW := Lib.hid hown
      have BW := Lib.hid hb
      have KW := Lib.hid (show Blk wr w.heap.size 25 #[.int .i64 m, .int .i64 e, .slice (some ⟨b1, o1, none⟩) la ca, .slice (some ⟨b2, o2, none⟩) lb cb] from (hb.block _ lr2).trans K2.out)
      have RW := Lib.hid (R2.out.next (HBS.out ▸ hb))
      clear hown hb
      by_cases hlt : y < nl
      · obtain ⟨r, hr⟩ : ∃ r, As[y]? = some r := ⟨_, List.getElem?_eq_getElem (by rw [HNL.out]; exact hlt)⟩
        have HRI := Lib.hid ((HALL.out r).1 (List.mem_of_getElem? hr))
        have hir := set_info (setP_size (p := r))
        have hor := setP_one (p := r)
        have holdr : (#[.bool false, .bool false, .bool false, .bool false, .bool false, .bool false, .bool false, .bool false, .bool false, .bool false, .bool false, .bool false, .bool false, .bool false, .bool false, .bool false] : Array Value).size = (setP r).size := by rw [setP_size]; rfl
        have hrange : wr.rangeAt gI (y * 16) (setP r).toList := fun i v hv => by
          have hi : i < 16 := by have := (List.getElem?_eq_some_iff.1 hv).1; rwa [Array.length_toList, setP_size] at this
          rw [BW.out.cell (p := ⟨gI, y * 16 + i, none⟩) lgI, SN.out (y * 16 + i) (by omega), setsV_get hr hi]
          rw [Array.getElem?_toList, setP_get hi] at hv
          exact hv
        have HRR := Lib.hid (map_one (m := m) hr)
        obtain ⟨g9, hg9⟩ : ∃ g, wr.heap.size = g := ⟨_, rfl⟩
        have KN9 : Blk (wr.alloc (.cells #[.bool false, .bool false, .bool false, .bool false, .bool false, .bool false, .bool false, .bool false, .bool false, .bool false, .bool false, .bool false, .bool false, .bool false, .bool false, .bool false] 50)) g9 50 #[.bool false, .bool false, .bool false, .bool false, .bool false, .bool false, .bool false, .bool false, .bool false, .bool false, .bool false, .bool false, .bool false, .bool false, .bool false, .bool false] := by rw [← hg9]; exact Blk.new _ _ _
        clear hr
        go_upto_region 7 with (first
          | (refine wpList_load_mid rfl 50 (.tmp 14) rfl gI (y * 16) rfl (setP r).toList _ hrange Tryz.underlying50 rfl (by rw [Array.length_toList]; exact hir) ?_; rw [Array.toArray_toList])
          | (refine wpList_store_row rfl 50 (.tmp 5) (.tmp 15) rfl g9 (setP r) rfl rfl _ _ KN9 hir holdr hor ?_))
        obtain ⟨V9, hV9⟩ : ∃ V, (wr.alloc (.cells #[.bool false, .bool false, .bool false, .bool false, .bool false, .bool false, .bool false, .bool false, .bool false, .bool false, .bool false, .bool false, .bool false, .bool false, .bool false, .bool false] 50)).setRow g9 (setP r) = V := ⟨_, rfl⟩
        have bV9 : Below wr.heap.size wr V9 := by subst hV9 hg9; exact set_row.2
        have kV9 : Blk V9 g9 50 (setP r) := by subst hV9 hg9; exact set_row.1
        rw [hV9]
        have B9 := Lib.hid (BW.out.trans (bV9.mono hsz))
        have G9 := Lib.hid kV9
        have s9 : Bs ≤ V9.heap.size := Nat.le_trans hsz bV9.size
        have O9 := Lib.hid (OW.out.next bV9)
        obtain ⟨c0, c1, c2, c3⟩ := blk4 (KW.out.next bV9)
        clear hV9 bV9 kV9 KN9 hrange
        go_wp2_with (first
          | (refine wpList_load_row rfl 50 (.tmp 5) rfl g9 rfl _ (setP r) (0, 0) _ G9.out Tryz.underlying50 rfl hir ?_))
        refine (elements_any r m e _ _ la ca lb cb V9 hm').mono ?_
        rintro e5 w5 ⟨v5, rfl, ⟨B4, l4, q4, rfl, o4, n4, n5⟩, hb5⟩
        have O4 := Lib.hid o4
        obtain ⟨ZZ, hZZ⟩ : ∃ Z, ((As.take y).map (lstP m)) = Z := ⟨_, rfl⟩
        have hzl : ZZ.length ≤ 32768 := by rw [← hZZ, List.length_map, List.length_take]; omega
        have HZZ := Lib.hid hZZ
        have oq := O9.out
        rw [hZZ] at oq
        obtain ⟨xs, hx1, hx2, hx3⟩ := oq
        have HX1 := Lib.hid (own_nextK hx1 hb5)
        have HX2 := Lib.hid (hx2.next hb5)
        have HX3 := Lib.hid hx3
        have HX4 := Lib.hid hx2.old
        have HO9 := Lib.hid (show ∀ g, u3.ownBlock = some g → g < V9.heap.size from fun g e => (hx1.lt g e).2)
        have B5 := Lib.hid (B9.out.trans (hb5.mono s9))
        have s5 : Bs ≤ w5.heap.size := Nat.le_trans s9 hb5.size
        have wr2 : Below w5.heap.size w5 (w5.alloc (.cells #[.slice B4 l4 q4] 23)) := (Below.refl _ _).alloc (Nat.le_refl _) _
        clear hb5 o4 hZZ hx1 hx2 hx3 c0 c1 c2 c3
        go_wp2_with (at_builtin; refine wpList_append_own_at _ rfl _ _ 30 rfl Bs 23 i0 (.slice none 0 0) 1 24 Tryz.underlying30 hi hz0 hz1 hz2 rfl (by decide) _ _ _ rfl (HX1.out.alloc _) ⟨w5.heap.size, 0, none⟩ 1 1 [.slice B4 l4 q4] rfl rfl (by intro i u hi; match i, hi with | 0, hi => simp at hi; subst hi; simp [Addr.add]) (by intro u hu; simp at hu; subst hu; rfl) (by unfold maxLen; omega) (by omega) (by simp; omega) ?_; intro v6 w6 hown6 hg6 _ hloc6; have HO6 := Lib.hid hown6; have HG6 := Lib.hid hg6; have HL6 := Lib.hid hloc6; have B6 := Lib.hid ((B5.out.trans (wr2.mono s5)).grown hg6 (Nat.le_trans s5 wr2.size) (fun k hk => (HX1.out.lt k hk).1)); clear hown6 hg6 hloc6)
        go_roundg (nl - (y + 1))
        case measure => omega
        case rel =>
          refine ⟨y + 1, by omega, by omega, by go_num, ?_, B6.out⟩
          rw [HRR.out, HZZ.out]
          refine ⟨xs ++ [.slice B4 l4 q4], by simpa using HO6.out, LLs.more HX2.out (O4.out.down s9) n4 n5 (fun g off hl e e' => ?_) HG6.out HL6.out, LLp.more (E := V9.heap.size) HX3.out HX4.out (fun g off hl e => ?_)⟩
          · obtain ⟨g2, off2, e2, hge, _⟩ := O4.out.2 hl
            rw [e] at e2
            simp only [Option.some.injEq, Addr.mk.injEq, and_true] at e2
            have := HO9.out g e'
            omega
          · obtain ⟨g2, off2, e2, hge, _⟩ := O4.out.2 hl
            rw [e] at e2
            simp only [Option.some.injEq, Addr.mk.injEq, and_true] at e2
            omega
      · have hym : y = nl := by omega
        subst hym
        have HT := Lib.hid (show As.take y = As from List.take_of_length_le (by rw [HNL.out]; exact Nat.le_refl _))
        have OF := Lib.hid (show LLq Bs wr u3 (As.map (lstP m)) by have := OW.out; rwa [HT.out] at this)
        have HN2 := Lib.hid (show (As.map (lstP m)).Nodup by
          unfold List.Nodup
          rw [List.pairwise_map]
          exact HND.out.imp_of_mem fun {p q} hp hq hne e => hne (lst_uniq ((HALL.out p).1 hp).lt ((HALL.out q).1 hq).lt e))
        go_wp2_with (go_at_call 54; refine (sortSS_any Bs u3 (As.map (lstP m)) wr OF.out (by rw [List.length_map, HNL.out]; exact hpos) (by rw [List.length_map, HNL.out]; omega) HN2.out).mono ?_; rintro e7 w7 ⟨rfl, ZZ', hq7, hs7, hm7, hl7, hg7⟩)
        have B7 := Lib.hid (B2.out.trans ((BW.out.grown hg7 hsz (fun k hk => (OF.out.lists.choose_spec.1.lt k hk).1)).mono hsW))
        have H7 := Lib.hid (hq7.down hsW)
        have HA7 := Lib.hid (show IsAll m (tabOf X) (tabOf Y) ZZ' from ⟨hs7, fun l => (hm7 l).trans (by
          rw [List.mem_map]
          constructor
          · rintro ⟨p, hp, rfl⟩; exact ⟨p, (HALL.out p).1 hp, rfl⟩
          · rintro ⟨p, hp, rfl⟩; exact ⟨p, (HALL.out p).2 hp, rfl⟩)⟩)
        clear hq7 hs7 hm7 hl7 hg7
        go_wp2
        go_ret
        exact ⟨u3, by rfl, by rw [hz.out, HA7.out.eq]; exact H7.out, B7.out⟩

end Go.Proofs.YtajoimopahibcaaGreat

