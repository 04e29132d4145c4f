package tests

import (
	"math"
	"slices"
	"strconv"
	"strings"
	"testing"

	"loop.example/finiterings/impl"
)

// isRing checks that a function has returned a ring, which is valid and has certain tables.
func isRing(t *testing.T, what string, r impl.Ring, ok bool, want impl.Ring) {
	t.Helper()
	if !ok || !impl.RingValid(r) || !impl.SameRing(r, want) {
		t.Errorf("%s = %v, %v, want %v", what, r, ok, want)
	}
}

// isNoRing checks that a function has returned the zero value and false.
func isNoRing(t *testing.T, what string, r impl.Ring, ok bool) {
	t.Helper()
	if ok || r.Size != 0 || r.One != 0 || len(r.Sums) != 0 || len(r.Products) != 0 {
		t.Fatalf("%s has the size %d, One %d, %d sums, %d products, and %v", what, r.Size, r.One, len(r.Sums), len(r.Products), ok)
	}
}

// show returns the text of some numbers.
func show(numbers ...int) string {
	var words []string
	for _, n := range numbers {
		words = append(words, strconv.Itoa(n))
	}
	return strings.Join(words, ",")
}

// powerOf returns the size of the polynomials with so many coefficients.
func powerOf(size, count int) int {
	result := 1
	for range count {
		result *= size
	}
	return result
}

// numbersOf returns the digits of a number by a base, from the lowest one on.
func numbersOf(number, base, count int) []int {
	var digits []int
	for range count {
		digits = append(digits, number%base)
		number /= base
	}
	return digits
}

// numberOf returns the number with some digits by a base.
func numberOf(digits []int, base int) int {
	number := 0
	for i, d := range digits {
		number += d * powerOf(base, i)
	}
	return number
}

// polynomialRing returns the ring of polynomials over r by the monic one with the coefficients f, by multiplying out and dividing from the highest degree on.
func polynomialRing(r impl.Ring, f []int) impl.Ring {
	d := len(f)
	add := func(a, b int) int { return r.Sums[a*r.Size+b] }
	mul := func(a, b int) int { return r.Products[a*r.Size+b] }
	sum := func(x, y int) int {
		a, b := numbersOf(x, r.Size, d), numbersOf(y, r.Size, d)
		for i := range a {
			a[i] = add(a[i], b[i])
		}
		return numberOf(a, r.Size)
	}
	product := func(x, y int) int {
		a, b := numbersOf(x, r.Size, d), numbersOf(y, r.Size, d)
		all := make([]int, 2*d)
		for i := range a {
			for j := range b {
				all[i+j] = add(all[i+j], mul(a[i], b[j]))
			}
		}
		for top := 2*d - 1; top >= d; top-- {
			// The multiple of the monic polynomial that has the opposite of the top coefficient is added.
			opposite := slices.Index(r.Sums[all[top]*r.Size:], 0)
			all[top] = 0
			for i := range f {
				all[top-d+i] = add(all[top-d+i], mul(opposite, f[i]))
			}
		}
		return numberOf(all[:d], r.Size)
	}
	return tabled(powerOf(r.Size, d), r.One, sum, product)
}

// eachPolynomial calls a function with each ring and coefficients of which there is a ring of polynomials.
func eachPolynomial(rings []impl.Ring, visit func(r impl.Ring, f []int)) {
	for _, r := range rings {
		for d := 1; d <= 4 && powerOf(r.Size, d) <= impl.MaxSize; d++ {
			for code := range powerOf(r.Size, d) {
				visit(r, numbersOf(code, r.Size, d))
			}
		}
	}
}

// eachPair calls a function with each two rings of which there is a product.
func eachPair(rings []impl.Ring, visit func(r, s impl.Ring)) {
	for _, r := range rings {
		for _, s := range rings {
			if r.Size*s.Size <= impl.MaxSize {
				visit(r, s)
			}
		}
	}
}

// pairRing returns the ring of the pairs of elements of two rings.
func pairRing(r, s impl.Ring) impl.Ring {
	join := func(a, b int, first, second []int) int {
		return first[a/s.Size*r.Size+b/s.Size]*s.Size + second[a%s.Size*s.Size+b%s.Size]
	}
	sum := func(a, b int) int { return join(a, b, r.Sums, s.Sums) }
	product := func(a, b int) int { return join(a, b, r.Products, s.Products) }
	return tabled(r.Size*s.Size, r.One*s.Size+s.One, sum, product)
}

// orders returns all orders of the numbers below n with 0 in front.
func orders(n int) [][]int {
	all := [][]int{{0}}
	for last := 1; last < n; last++ {
		var longer [][]int
		for _, order := range all {
			for at := 1; at <= len(order); at++ {
				longer = append(longer, slices.Insert(slices.Clone(order), at, last))
			}
		}
		all = longer
	}
	return all
}

func TestIntegers(t *testing.T) {
	for n := 1; n <= impl.MaxSize; n++ {
		r, ok := impl.Integers(n)
		isRing(t, "Integers "+show(n), r, ok, remainders(n))
	}
	for _, n := range []int{0, 17, -1, -16, 18, 32, math.MaxInt, math.MinInt} {
		r, ok := impl.Integers(n)
		isNoRing(t, "Integers "+show(n), r, ok)
	}
}

func TestProductRing(t *testing.T) {
	eachPair(someRings(), func(r, s impl.Ring) {
		p, ok := impl.ProductRing(r, s)
		isRing(t, "ProductRing "+impl.FormatRing(r)+" and "+impl.FormatRing(s), p, ok, pairRing(r, s))
	})
	for m := 1; m <= impl.MaxSize; m++ {
		for n := 1; m*n <= impl.MaxSize; n++ {
			p, ok := impl.ProductRing(remainders(m), remainders(n))
			isRing(t, "ProductRing by "+show(m, n), p, ok, pairs(m, n))
		}
	}
}

// TestProductRingOfOne has the ring of one element on either side, which leaves the tables as they are.
func TestProductRingOfOne(t *testing.T) {
	one := remainders(1)
	for _, r := range someRings() {
		left, ok := impl.ProductRing(one, r)
		isRing(t, "ProductRing of one and "+impl.FormatRing(r), left, ok, r)
		right, ok := impl.ProductRing(r, one)
		isRing(t, "ProductRing of "+impl.FormatRing(r)+" and one", right, ok, r)
	}
}

func TestProductRingTooLarge(t *testing.T) {
	count := 0
	for _, r := range someRings() {
		for _, s := range someRings() {
			if r.Size*s.Size > impl.MaxSize {
				p, ok := impl.ProductRing(r, s)
				isNoRing(t, "ProductRing of sizes "+show(r.Size, s.Size), p, ok)
				if impl.PartOf(r, s, 0, false) != -1 || impl.PartOf(r, s, 0, true) != -1 || impl.PairOf(r, s, 0, 0) != -1 {
					t.Errorf("parts of sizes %d and %d", r.Size, s.Size)
				}
				count++
			}
		}
	}
	if count == 0 {
		t.Error("nothing is too large")
	}
}

func TestParts(t *testing.T) {
	eachPair(someRings(), func(r, s impl.Ring) {
		for a := range r.Size {
			for b := range s.Size {
				pair := a*s.Size + b
				if got := impl.PairOf(r, s, a, b); got != pair {
					t.Errorf("sizes %d and %d: PairOf(%d, %d) = %d", r.Size, s.Size, a, b, got)
				}
				if first, second := impl.PartOf(r, s, pair, false), impl.PartOf(r, s, pair, true); first != a || second != b {
					t.Errorf("sizes %d and %d: parts of %d are %d and %d", r.Size, s.Size, pair, first, second)
				}
			}
		}
	})
}

func TestPartsOfNoElements(t *testing.T) {
	eachPair(someRings(), func(r, s impl.Ring) {
		for _, a := range []int{-1, r.Size * s.Size, math.MaxInt, math.MinInt} {
			if first, second := impl.PartOf(r, s, a, false), impl.PartOf(r, s, a, true); first != -1 || second != -1 {
				t.Errorf("sizes %d and %d: parts of %d are %d and %d", r.Size, s.Size, a, first, second)
			}
		}
		for _, c := range [][2]int{{-1, 0}, {0, -1}, {r.Size, 0}, {0, s.Size}, {math.MinInt, 0}, {0, math.MaxInt}} {
			if got := impl.PairOf(r, s, c[0], c[1]); got != -1 {
				t.Errorf("sizes %d and %d: PairOf(%d, %d) = %d", r.Size, s.Size, c[0], c[1], got)
			}
		}
	})
}

func TestTowerRing(t *testing.T) {
	eachPolynomial(someRings(), func(r impl.Ring, f []int) {
		p, ok := impl.TowerRing(r, f)
		isRing(t, "TowerRing "+impl.FormatRing(r)+" by "+show(f...), p, ok, polynomialRing(r, f))
	})
}

// TestTowerRingKnown has rings whose tables are known otherwise.
func TestTowerRingKnown(t *testing.T) {
	two := remainders(2)
	field, ok := impl.TowerRing(two, []int{1, 1})
	isRing(t, "the field of four", field, ok, fieldOfFour())
	if got := impl.Mul(field, 2, 2); got != 3 {
		t.Errorf("2 times 2 is %d", got)
	}
	// In the ring by the square of the unknown, the unknown has the number of the size and the square 0.
	for n := 2; n <= 4; n++ {
		r, ok := impl.TowerRing(remainders(n), []int{0, 0})
		if !ok || impl.Mul(r, n, n) != 0 || impl.Mul(r, n, 1) != n || impl.CharacteristicOf(r) != n {
			t.Errorf("by the square of the unknown over %d: %v, %v", n, r, ok)
		}
	}
	// By the square less 2 over the integers by 4, the square of the unknown is 2: the coefficient given is that of the left side.
	root, _ := impl.TowerRing(remainders(4), []int{2, 0})
	third, _ := impl.TowerRing(remainders(3), []int{1, 0})
	if impl.Mul(root, 4, 4) != 2 || impl.Mul(third, 3, 3) != 2 {
		t.Errorf("squares of the unknown are %d and %d", impl.Mul(root, 4, 4), impl.Mul(third, 3, 3))
	}
	// The field of sixteen elements has an unknown whose powers are all elements but 0.
	sixteen, _ := impl.TowerRing(two, []int{1, 1, 0, 0})
	seen := map[int]bool{}
	for n := range 15 {
		seen[impl.Power(sixteen, 2, n)] = true
	}
	if len(seen) != 15 || seen[0] || impl.Power(sixteen, 2, 4) != 3 {
		t.Errorf("powers of the unknown are %v", seen)
	}
}

// TestTowerRingOfDegreeOne has polynomials of one coefficient only, for which the given one does not matter.
func TestTowerRingOfDegreeOne(t *testing.T) {
	for _, r := range someRings() {
		for c := range r.Size {
			p, ok := impl.TowerRing(r, []int{c})
			isRing(t, "TowerRing "+impl.FormatRing(r)+" by "+show(c), p, ok, r)
			for a := range r.Size {
				if list, ok := impl.CoefficientsOf(r, []int{c}, a); !ok || !slices.Equal(list, []int{a}) {
					t.Errorf("size %d by %d: CoefficientsOf(%d) = %v, %v", r.Size, c, a, list, ok)
				}
			}
		}
	}
}

func TestTowerRingOfOne(t *testing.T) {
	one := remainders(1)
	for d := 1; d <= 4; d++ {
		f := make([]int, d)
		p, ok := impl.TowerRing(one, f)
		isRing(t, "TowerRing of one by "+show(f...), p, ok, one)
		if list, ok := impl.CoefficientsOf(one, f, 0); !ok || !slices.Equal(list, f) {
			t.Errorf("CoefficientsOf by %v = %v, %v", f, list, ok)
		}
		if list, ok := impl.CoefficientsOf(one, f, 1); ok || len(list) != 0 {
			t.Errorf("CoefficientsOf by %v = %v, %v", f, list, ok)
		}
	}
}

// isNoTower checks that there is no ring of polynomials over r by f.
func isNoTower(t *testing.T, r impl.Ring, f []int) {
	t.Helper()
	p, ok := impl.TowerRing(r, f)
	isNoRing(t, "TowerRing of size "+show(r.Size)+" by "+show(f...), p, ok)
	if list, ok := impl.CoefficientsOf(r, f, 0); ok || len(list) != 0 {
		t.Errorf("size %d by %v: CoefficientsOf = %v, %v", r.Size, f, list, ok)
	}
}

func TestTowerRingOfOtherLists(t *testing.T) {
	for _, r := range someRings() {
		isNoTower(t, r, nil)
		isNoTower(t, r, []int{})
		isNoTower(t, r, make([]int, 5))
		isNoTower(t, r, make([]int, 64))
		for d := 1; d <= 4; d++ {
			if powerOf(r.Size, d) > impl.MaxSize {
				isNoTower(t, r, make([]int, d))
				continue
			}
			for at := range d {
				for _, c := range []int{-1, r.Size, math.MaxInt, math.MinInt} {
					f := make([]int, d)
					f[at] = c
					isNoTower(t, r, f)
				}
			}
		}
	}
}

func TestCoefficientsOf(t *testing.T) {
	eachPolynomial(someRings(), func(r impl.Ring, f []int) {
		size := powerOf(r.Size, len(f))
		for a := range size {
			if list, ok := impl.CoefficientsOf(r, f, a); !ok || !slices.Equal(list, numbersOf(a, r.Size, len(f))) {
				t.Errorf("size %d by %v: CoefficientsOf(%d) = %v, %v", r.Size, f, a, list, ok)
			}
		}
		for _, a := range []int{-1, size, math.MaxInt, math.MinInt} {
			if list, ok := impl.CoefficientsOf(r, f, a); ok || len(list) != 0 {
				t.Errorf("size %d by %v: CoefficientsOf(%d) = %v, %v", r.Size, f, a, list, ok)
			}
		}
	})
}

// renamed checks that in the renamed ring each sum and product has the name of the old one.
func renamed(t *testing.T, r impl.Ring, names []int) {
	t.Helper()
	s, ok := impl.RenameRing(r, names)
	if !ok || s.Size != r.Size || s.One != names[r.One] || !impl.RingValid(s) {
		t.Errorf("RenameRing(%v, %v) = %v, %v", r, names, s, ok)
		return
	}
	for a := range r.Size {
		for b := range r.Size {
			sum, product := names[r.Sums[a*r.Size+b]], names[r.Products[a*r.Size+b]]
			if at := names[a]*r.Size + names[b]; s.Sums[at] != sum || s.Products[at] != product {
				t.Errorf("RenameRing(%v, %v) = %v at %d and %d", r, names, s, a, b)
			}
		}
	}
}

func TestRenameRing(t *testing.T) {
	for _, r := range someRings() {
		if r.Size <= 5 {
			for _, names := range orders(r.Size) {
				renamed(t, r, names)
			}
		}
		// For larger ones: the elements but 0 go on by some steps.
		for step := range max(r.Size-1, 1) {
			names := []int{0}
			for a := range r.Size - 1 {
				names = append(names, (a+step)%(r.Size-1)+1)
			}
			renamed(t, r, names)
		}
	}
	r, ok := impl.RenameRing(remainders(16), []int{0, 15, 2, 3, 4, 5, 6, 7, 8, 9, 10, 11, 12, 13, 14, 1})
	isRing(t, "RenameRing with two elements swapped", r, ok, swapped(remainders(16), 1, 15))
	// The names are those of the old elements: 1 becomes 2, 2 becomes 3 and 3 becomes 1.
	r, ok = impl.RenameRing(fieldOfFour(), []int{0, 2, 3, 1})
	if !ok || r.One != 2 || impl.Mul(r, 3, 3) != 1 || impl.Mul(r, 3, 1) != 2 {
		t.Errorf("RenameRing of the field of four = %v, %v", r, ok)
	}
}

func TestRenameRingOfOtherLists(t *testing.T) {
	for _, r := range someRings() {
		none := func(names []int) {
			s, ok := impl.RenameRing(r, names)
			isNoRing(t, "RenameRing of size "+show(r.Size)+" by "+show(names...), s, ok)
		}
		names := numbersBelow(r.Size)
		none(nil)
		none(names[:r.Size-1])
		none(append(slices.Clone(names), r.Size))
		none(append(slices.Clone(names), 0))
		for at := range names {
			for _, c := range []int{-1, r.Size, math.MaxInt, math.MinInt} {
				other := slices.Clone(names)
				other[at] = c
				none(other)
			}
			// One element twice, so that another one has no name.
			if at > 0 {
				other := slices.Clone(names)
				other[at] = at - 1
				none(other)
			}
		}
		// Each element once, but 0 has another name.
		for a := 1; a < r.Size; a++ {
			other := slices.Clone(names)
			other[0], other[a] = a, 0
			none(other)
		}
	}
}

// numbersBelow returns the numbers from 0 to n minus 1.
func numbersBelow(n int) []int {
	numbers := []int{}
	for a := range n {
		numbers = append(numbers, a)
	}
	return numbers
}

func TestMakesOfBadRings(t *testing.T) {
	for name, bad := range badRings() {
		good := remainders(1)
		left, ok := impl.ProductRing(bad, good)
		isNoRing(t, name+": ProductRing on the left", left, ok)
		right, ok := impl.ProductRing(good, bad)
		isNoRing(t, name+": ProductRing on the right", right, ok)
		for i, got := range []int{impl.PartOf(bad, good, 0, false), impl.PartOf(good, bad, 0, true), impl.PairOf(bad, good, 0, 0), impl.PairOf(good, bad, 0, 0)} {
			if got != -1 {
				t.Errorf("%s: result %d is %d", name, i, got)
			}
		}
		isNoTower(t, bad, []int{0})
		isNoTower(t, bad, []int{0, 0})
		for _, n := range []int{0, 1, 2, 3, 4, 5, 17} {
			s, ok := impl.RenameRing(bad, numbersBelow(n))
			isNoRing(t, name+": RenameRing", s, ok)
		}
	}
}

// made returns the ring of a text that has one.
func made(t *testing.T, s string) impl.Ring {
	t.Helper()
	r, ok := impl.MakeRing(s)
	if !ok || !impl.RingValid(r) {
		t.Errorf("MakeRing(%q) = %v, %v", s, r, ok)
	}
	return r
}

func TestMakeRing(t *testing.T) {
	for n := 1; n <= impl.MaxSize; n++ {
		r, ok := impl.MakeRing(show(n))
		isRing(t, "MakeRing "+show(n), r, ok, remainders(n))
		for m := 1; m*n <= impl.MaxSize; m++ {
			text := show(m) + "x" + show(n)
			r, ok := impl.MakeRing(text)
			isRing(t, "MakeRing "+text, r, ok, pairs(m, n))
		}
	}
	var integers []impl.Ring
	for n := 1; n <= impl.MaxSize; n++ {
		integers = append(integers, remainders(n))
	}
	eachPolynomial(integers, func(r impl.Ring, f []int) {
		text := show(r.Size) + "[" + show(f...) + "]"
		p, ok := impl.MakeRing(text)
		isRing(t, "MakeRing "+text, p, ok, polynomialRing(r, f))
	})
}

func TestMakeRingOfSeveralFactors(t *testing.T) {
	two, three := remainders(2), remainders(3)
	for text, want := range map[string]impl.Ring{
		"1x1":               remainders(1),
		"1x1x1x1x1x1x1":     remainders(1),
		"1x16x1":            remainders(16),
		"2[1,1]":            fieldOfFour(),
		"2[1,1]x3":          pairRing(fieldOfFour(), three),
		"3x2[1,1]":          pairRing(three, fieldOfFour()),
		"2[1,1]x2[0,0]":     pairRing(fieldOfFour(), polynomialRing(two, []int{0, 0})),
		"2[0]x2[1]x1[0,0]":  pairRing(two, two),
		"2x2x3":             pairRing(pairRing(two, two), three),
		"2x2x2x2":           pairRing(pairRing(two, two), pairRing(two, two)),
		"3x2x2":             pairRing(pairRing(three, two), two),
		"1[0,0,0,0]x4":      remainders(4),
		"16[15]":            remainders(16),
		"2x4":               pairs(2, 4),
		"4[2,0]x1[0]":       polynomialRing(remainders(4), []int{2, 0}),
		"1[0]x2[1,0,0,1]x1": polynomialRing(two, []int{1, 0, 0, 1}),
	} {
		r, ok := impl.MakeRing(text)
		isRing(t, "MakeRing "+text, r, ok, want)
	}
	// A long text of factors that change nothing.
	long := made(t, "3x4"+strings.Repeat("x1[0,0]x1", 2000))
	if !impl.SameRing(long, pairs(3, 4)) {
		t.Errorf("a long text is %v", long)
	}
	// Some rings that are the same, by the order of the factors.
	if !impl.SameRing(made(t, "2x2x4"), pairRing(made(t, "2x2"), made(t, "4"))) || impl.SameRing(made(t, "2x3"), made(t, "3x2")) {
		t.Error("the order of the factors")
	}
}

func TestMakeRingOfOtherTexts(t *testing.T) {
	for _, s := range []string{
		"", " ", "x", "[", "]", ",", "[]", "[1]", "0", "00", "17", "18", "160", "01", "02", "001", "-1", "-2", "+2", "2.", "2.0", "1e1", "0x2", "0x10", "a", "f", "2a",
		"9223372036854775808", "18446744073709551618", "18446744073709551617x2", "4294967298", strings.Repeat("9", 100000), strings.Repeat("0", 100000) + "2",
		" 2", "2 ", "2 x2", "2x 2", "2\n", "2\x00", "2\xff", "\xff2", "２", "2×2", "2X2", "2*2", "2,2", "2/2", "2;2",
		"2x", "x2", "2xx2", "2x2x", "x", "xx", "2x0", "0x2", "2x17", "17x1", "2x02", "1x17", "2x-2",
		"2[", "2]", "2[]", "2[1", "2[1,1", "2[1,1x2", "2[,1]", "2[1,]", "2[1,,1]", "2[,]", "2[1,1]]", "2[[1,1]", "2[[1,1]]", "2[1][1]", "2[1]1", "2[1]x", "2[1],", "2[1] ", "2[ 1]", "2[1, 1]", "2[1;1]", "2[1x1]", "2[1[1]]", "2[1[0]", "2[1[0]]", "2[3[1,1]", "2[1,3[1]", "2[1,3[1]]", "2(1,1)",
		"2[2]", "2[1,2]", "2[-1]", "2[-1,1]", "2[-0]", "2[+1]", "2[01]", "2[00,1]", "2[18446744073709551617]", "2[18446744073709551616,1]", "2[0,0,0,0,0]", "1[0,0,0,0,0]", "1[1]", "0[0]", "0[]", "17[0]", "02[1]", "-2[1]",
		"3[0,0,0]", "4[0,0,0]", "5[0,0]", "16[0,0]", "4x5", "16x2", "2x2x2x2x2", "2x2x2x3", "2[1,1]x5", "5x2[1,1]", "3x2[1,1]x2",
	} {
		r, ok := impl.MakeRing(s)
		isNoRing(t, "MakeRing "+strconv.Quote(s[:min(len(s), 40)]), r, ok)
	}
}

// TestMakeRingOfOneChange puts each byte in each place of texts, and leaves out and doubles each one, and asks a reading of its own which texts are rings'.
func TestMakeRingOfOneChange(t *testing.T) {
	check := func(s string) {
		r, ok := impl.MakeRing(s)
		if want, good := readMade(s); good {
			isRing(t, "MakeRing "+strconv.Quote(s), r, ok, want)
		} else {
			isNoRing(t, "MakeRing "+strconv.Quote(s), r, ok)
		}
	}
	for _, text := range []string{"2[1,1]x3", "2x2x4", "1[0,0]x16", "12"} {
		for i := range len(text) + 1 {
			for b := range 256 {
				check(text[:i] + string([]byte{byte(b)}) + text[i:])
				if i < len(text) {
					check(text[:i] + string([]byte{byte(b)}) + text[i+1:])
				}
			}
			check(text[:i])
			check(text[i:])
			if i < len(text) {
				check(text[:i] + text[i+1:])
			}
		}
	}
}

// readMade reads the text of a ring by cutting it.
func readMade(s string) (impl.Ring, bool) {
	product := remainders(1)
	for _, factor := range strings.Split(s, "x") {
		number, list, brackets := strings.Cut(factor, "[")
		n, err := strconv.Atoi(number)
		if err != nil || strconv.Itoa(n) != number || n < 1 || n > impl.MaxSize {
			return impl.Ring{}, false
		}
		r := remainders(n)
		if brackets {
			inside, closed := strings.CutSuffix(list, "]")
			words := strings.Split(inside, ",")
			var f []int
			for _, word := range words {
				c, err := strconv.Atoi(word)
				if err != nil || strconv.Itoa(c) != word || c < 0 || c >= n {
					return impl.Ring{}, false
				}
				f = append(f, c)
			}
			if !closed || len(f) > 4 || powerOf(n, len(f)) > impl.MaxSize {
				return impl.Ring{}, false
			}
			r = polynomialRing(r, f)
		}
		if product.Size*r.Size > impl.MaxSize {
			return impl.Ring{}, false
		}
		product = pairRing(product, r)
	}
	return product, true
}

// TestMakesCombined makes rings of rings that were made.
func TestMakesCombined(t *testing.T) {
	rings := []impl.Ring{made(t, "2x2"), made(t, "2[1,1]"), made(t, "2[0,0]"), made(t, "3[2,0]"), made(t, "2x4"), made(t, "2[1,1,0]")}
	for _, r := range rings {
		names := numbersBelow(r.Size)
		slices.Reverse(names[1:])
		renamed(t, r, names)
	}
	eachPair(rings, func(r, s impl.Ring) {
		p, ok := impl.ProductRing(r, s)
		isRing(t, "ProductRing of rings that were made", p, ok, pairRing(r, s))
	})
	eachPolynomial(rings, func(r impl.Ring, f []int) {
		p, ok := impl.TowerRing(r, f)
		isRing(t, "TowerRing of a ring that was made", p, ok, polynomialRing(r, f))
	})
}

// guarded returns a copy of a list with numbers behind its end, and a function that reports whether all are as before.
func guarded(list []int) ([]int, func() bool) {
	memory := append(slices.Clone(list), 77, 78, 79)
	before := slices.Clone(memory)
	return memory[:len(list)], func() bool { return slices.Equal(memory, before) }
}

// spoil writes over all that lies in the memory of a ring's tables, behind their ends too.
func spoil(r impl.Ring) {
	for _, table := range [][]int{r.Sums, r.Products} {
		for i := range table[:cap(table)] {
			table[:cap(table)][i] = -9
		}
	}
}

// TestMakesMemory checks that arguments, and what lies behind their ends, stay as they are, and that results have memory of their own.
func TestMakesMemory(t *testing.T) {
	plain := remainders(4)
	sums, sumsKept := guarded(plain.Sums)
	products, productsKept := guarded(plain.Products)
	f, fKept := guarded([]int{3})
	g, gKept := guarded([]int{1, 2})
	names, namesKept := guarded([]int{0, 1, 2, 3})
	kept := func() bool { return sumsKept() && productsKept() && fKept() && gKept() && namesKept() }
	r := impl.Ring{Size: 4, One: 1, Sums: sums, Products: products}
	for i, build := range []func() (impl.Ring, bool){
		func() (impl.Ring, bool) { return impl.Integers(4) },
		func() (impl.Ring, bool) { return impl.MakeRing("4") },
		func() (impl.Ring, bool) { return impl.MakeRing("1x4[3]") },
		func() (impl.Ring, bool) { return impl.ProductRing(r, remainders(1)) },
		func() (impl.Ring, bool) { return impl.ProductRing(remainders(1), r) },
		func() (impl.Ring, bool) { return impl.ProductRing(r, r) },
		func() (impl.Ring, bool) { return impl.TowerRing(r, f) },
		func() (impl.Ring, bool) { return impl.TowerRing(r, g) },
		func() (impl.Ring, bool) { return impl.RenameRing(r, names) },
	} {
		first, _ := build()
		again, _ := build()
		want := copied(again)
		spoil(impl.Ring{Sums: first.Sums})
		if !slices.Equal(first.Products, want.Products) {
			t.Errorf("result %d: the tables share memory", i)
		}
		spoil(first)
		if !impl.SameRing(again, want) || !kept() {
			t.Errorf("result %d: memory is shared or changed", i)
		}
	}
	list, _ := impl.CoefficientsOf(r, g, 6)
	other, _ := impl.CoefficientsOf(r, g, 6)
	for i := range list[:cap(list)] {
		list[:cap(list)][i] = -9
	}
	impl.PartOf(r, r, 7, true)
	impl.PairOf(r, r, 3, 3)
	if !slices.Equal(other, []int{2, 1}) || !kept() {
		t.Errorf("CoefficientsOf: memory is shared or changed")
	}
}
