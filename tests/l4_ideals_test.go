package tests

import (
	"math"
	"slices"
	"testing"

	"loop.example/finiterings/impl"
)

// flatRing returns the ring of binary digits in which the products of all but the lowest digit with each other are 0.
func flatRing(digits int) impl.Ring {
	product := func(a, b int) int {
		result := a & b & 1
		if a&1 == 1 {
			result ^= b &^ 1
		}
		if b&1 == 1 {
			result ^= a &^ 1
		}
		return result
	}
	return tabled(1<<digits, 1, func(a, b int) int { return a ^ b }, product)
}

// mixedRing returns the polynomials a plus b times x over the integers by 4, as a plus 4 times b, in which 2 times x is 0 and the square of x is the given one of 0 and 2.
func mixedRing(square int) impl.Ring {
	sum := func(a, b int) int { return (a%4+b%4)%4 + (a/4+b/4)%2*4 }
	product := func(a, b int) int {
		return (a%4*(b%4)+a/4*(b/4)*square)%4 + (a%4*(b/4)+a/4*(b%4))%2*4
	}
	return tabled(8, 1, sum, product)
}

// idealRings returns rings of all sizes, no two of them the same, some of which have ideals that no single element makes.
func idealRings() []impl.Ring {
	rings := append(manyRings(), flatRing(3), flatRing(4), mixedRing(0), mixedRing(2), swapped(flatRing(3), 1, 6), swapped(flatRing(4), 3, 8))
	eachPolynomial([]impl.Ring{polynomialRing(remainders(2), []int{0, 0})}, func(r impl.Ring, f []int) {
		rings = append(rings, polynomialRing(r, f))
	})
	rings = append(rings, pairRing(flatRing(3), remainders(2)), pairRing(remainders(2), mixedRing(0)))
	var different []impl.Ring
	for _, r := range rings {
		if !slices.ContainsFunc(different, func(s impl.Ring) bool { return impl.SameRing(r, s) }) {
			different = append(different, r)
		}
	}
	return different
}

// withDigits returns the places of the digits of a binary number that are 1.
func withDigits(number int) []int {
	places := make([]int, 0, impl.MaxSize)
	for place := range impl.MaxSize {
		if number>>place&1 == 1 {
			places = append(places, place)
		}
	}
	return places
}

// isClosed reports whether a list in order has 0, sums and products as an ideal has.
func isClosed(r impl.Ring, list []int) bool {
	in := make([]bool, r.Size)
	for _, a := range list {
		in[a] = true
	}
	for _, a := range list {
		for b := range r.Size {
			if in[b] && !in[r.Sums[a*r.Size+b]] || !in[productIn(r, a, b)] {
				return false
			}
		}
	}
	return in[0]
}

// triedIdeals returns all ideals of a ring in their order, by trying all lists that have 0.
func triedIdeals(r impl.Ring) [][]int {
	var ideals [][]int
	for others := range 1 << (r.Size - 1) {
		if list := withDigits(others<<1 | 1); isClosed(r, list) {
			ideals = append(ideals, list)
		}
	}
	slices.SortFunc(ideals, func(a, b []int) int {
		if len(a) != len(b) {
			return len(a) - len(b)
		}
		return slices.Compare(a, b)
	})
	return ideals
}

// hasEach reports whether a list has all numbers of another one.
func hasEach(list, numbers []int) bool {
	return !slices.ContainsFunc(numbers, func(a int) bool { return !slices.Contains(list, a) })
}

// fewest returns the first ideal with the fewest elements, of ideals in their order, that has some elements.
func fewest(ideals [][]int, elements []int) []int {
	return ideals[slices.IndexFunc(ideals, func(ideal []int) bool { return hasEach(ideal, elements) })]
}

// isThatIdeal checks that a function has returned an ideal and true.
func isThatIdeal(t *testing.T, what string, r impl.Ring, got []int, ok bool, want []int) {
	t.Helper()
	isList(t, what, r, got, want)
	if !ok {
		t.Errorf("%s in %s returned false", what, impl.FormatRing(r))
	}
}

// isNoList checks that a function has returned an empty slice and false.
func isNoList(t *testing.T, what string, got []int, ok bool) {
	t.Helper()
	if len(got) != 0 || ok {
		t.Errorf("%s = %v, %v", what, got, ok)
	}
}

// twoIdeals returns the functions of two ideals by their names.
func twoIdeals() map[string]func(r impl.Ring, a []int, b []int) ([]int, bool) {
	return map[string]func(r impl.Ring, a []int, b []int) ([]int, bool){
		"SumIdeal": impl.SumIdeal, "ProductIdeal": impl.ProductIdeal, "MeetIdeal": impl.MeetIdeal, "ColonIdeal": impl.ColonIdeal,
	}
}

func TestAllIdeals(t *testing.T) {
	for _, r := range idealRings() {
		got, want := impl.AllIdeals(r), triedIdeals(r)
		if !slices.EqualFunc(got, want, slices.Equal) {
			t.Errorf("AllIdeals %s = %v, want %v", impl.FormatRing(r), got, want)
		}
	}
}

func TestAllIdealsOfKnownRings(t *testing.T) {
	for text, want := range map[string][][]int{
		"2":      {{0}, {0, 1}},
		"4":      {{0}, {0, 2}, {0, 1, 2, 3}},
		"2x2":    {{0}, {0, 1}, {0, 2}, {0, 1, 2, 3}},
		"2[1,1]": {{0}, {0, 1, 2, 3}},
		"2[0,0]": {{0}, {0, 2}, {0, 1, 2, 3}},
		"2[0,1]": {{0}, {0, 2}, {0, 3}, {0, 1, 2, 3}},
		"3x2":    {{0}, {0, 1}, {0, 2, 4}, numbersBelow(6)},
		"12":     {{0}, {0, 6}, {0, 4, 8}, {0, 3, 6, 9}, {0, 2, 4, 6, 8, 10}, numbersBelow(12)},
		"4[0,0]": {{0}, {0, 8}, {0, 2, 8, 10}, {0, 4, 8, 12}, {0, 6, 8, 14}, {0, 2, 4, 6, 8, 10, 12, 14}, numbersBelow(16)},
	} {
		if got := impl.AllIdeals(made(t, text)); !slices.EqualFunc(got, want, slices.Equal) {
			t.Errorf("AllIdeals %s = %v, want %v", text, got, want)
		}
	}
	if got := len(impl.AllIdeals(flatRing(4))); got != 17 {
		t.Errorf("%d ideals, want the 16 spaces in the three upper digits and the whole ring", got)
	}
}

// TestIsIdealOfSets tries all lists in order.
func TestIsIdealOfSets(t *testing.T) {
	for _, r := range idealRings() {
		if r.Size > 9 {
			continue
		}
		for number := range 1 << r.Size {
			list := withDigits(number)
			if got := impl.IsIdeal(r, list); got != isClosed(r, list) {
				t.Errorf("IsIdeal of %v in %s = %v", list, impl.FormatRing(r), got)
			}
		}
	}
}

// TestIsIdealOfOneChange takes one element out of each ideal, and puts one in.
func TestIsIdealOfOneChange(t *testing.T) {
	for _, r := range idealRings() {
		for _, ideal := range impl.AllIdeals(r) {
			if !impl.IsIdeal(r, ideal) {
				t.Errorf("IsIdeal of %v in %s is false", ideal, impl.FormatRing(r))
			}
			for a := range r.Size {
				var list []int
				if at, in := slices.BinarySearch(ideal, a); in {
					list = slices.Delete(slices.Clone(ideal), at, at+1)
				} else {
					list = slices.Insert(slices.Clone(ideal), at, a)
				}
				if got := impl.IsIdeal(r, list); got != isClosed(r, list) {
					t.Errorf("IsIdeal of %v in %s = %v", list, impl.FormatRing(r), got)
				}
			}
		}
	}
}

func TestIdealOf(t *testing.T) {
	for _, r := range idealRings() {
		ideals := impl.AllIdeals(r)
		check := func(list ...int) {
			got, ok := impl.IdealOf(r, list)
			isThatIdeal(t, "IdealOf "+show(list...), r, got, ok, fewest(ideals, list))
		}
		check()
		for a := range r.Size {
			check(a)
			check(a, a, a)
			for b := range r.Size {
				check(a, b)
				check(b, 0, a, b)
			}
		}
	}
}

// TestIdealOfSets has all lists of elements, from the greatest one down.
func TestIdealOfSets(t *testing.T) {
	for _, r := range idealRings() {
		if r.Size > 9 {
			continue
		}
		ideals := impl.AllIdeals(r)
		for number := range 1 << r.Size {
			list := withDigits(number)
			slices.Reverse(list)
			got, ok := impl.IdealOf(r, list)
			if want := fewest(ideals, list); !ok || !slices.Equal(got, want) {
				t.Errorf("IdealOf %v in %s = %v, %v, want %v", list, impl.FormatRing(r), got, ok, want)
			}
		}
	}
}

func TestIdealOfLongList(t *testing.T) {
	long := slices.Repeat([]int{8, 0, 4}, 100000)
	got, ok := impl.IdealOf(remainders(12), long)
	isThatIdeal(t, "IdealOf a long list", remainders(12), got, ok, []int{0, 4, 8})
	if impl.IsIdeal(remainders(12), long) {
		t.Error("IsIdeal of a long list is true")
	}
}

// sumsOf returns, in order, the sums of an element of one list and one of another one.
func sumsOf(r impl.Ring, a, b []int) []int {
	return chosen(r, func(c int) bool {
		return slices.ContainsFunc(a, func(x int) bool {
			return slices.ContainsFunc(b, func(y int) bool { return r.Sums[x*r.Size+y] == c })
		})
	})
}

// sumsOfProducts returns, in order, all sums of products of an element of one list and one of another one.
func sumsOfProducts(r impl.Ring, a, b []int) []int {
	sums := []int{0}
	for at := 0; at < len(sums); at++ {
		for _, x := range a {
			for _, y := range b {
				if sum := r.Sums[sums[at]*r.Size+productIn(r, x, y)]; !slices.Contains(sums, sum) {
					sums = append(sums, sum)
				}
			}
		}
	}
	slices.Sort(sums)
	return sums
}

func TestTwoIdeals(t *testing.T) {
	for _, r := range idealRings() {
		for _, a := range impl.AllIdeals(r) {
			for _, b := range impl.AllIdeals(r) {
				what := " of " + show(a...) + " and " + show(b...)
				got, ok := impl.SumIdeal(r, a, b)
				isThatIdeal(t, "SumIdeal"+what, r, got, ok, sumsOf(r, a, b))
				got, ok = impl.ProductIdeal(r, a, b)
				isThatIdeal(t, "ProductIdeal"+what, r, got, ok, sumsOfProducts(r, a, b))
				got, ok = impl.MeetIdeal(r, a, b)
				isThatIdeal(t, "MeetIdeal"+what, r, got, ok, chosen(r, func(c int) bool { return slices.Contains(a, c) && slices.Contains(b, c) }))
				got, ok = impl.ColonIdeal(r, a, b)
				isThatIdeal(t, "ColonIdeal"+what, r, got, ok, chosen(r, func(c int) bool {
					return !slices.ContainsFunc(b, func(y int) bool { return !slices.Contains(a, productIn(r, c, y)) })
				}))
			}
		}
	}
}

// greatestDivisor returns the greatest number that divides both.
func greatestDivisor(a, b int) int {
	for b != 0 {
		a, b = b, a%b
	}
	return a
}

// multiplesBelow returns the multiples of a divisor of n that are less than n.
func multiplesBelow(n, divisor int) []int {
	return chosen(impl.Ring{Size: n}, func(a int) bool { return a%divisor == 0 })
}

// TestIdealsOfIntegers has the ideals of the divisors of each number, whose sums, products and meets are known.
func TestIdealsOfIntegers(t *testing.T) {
	for n := 1; n <= impl.MaxSize; n++ {
		r := remainders(n)
		for a := 1; a <= n; a++ {
			for b := 1; b <= n; b++ {
				if n%a != 0 || n%b != 0 {
					continue
				}
				first, second := multiplesBelow(n, a), multiplesBelow(n, b)
				what := " of " + show(a) + " and " + show(b)
				got, ok := impl.SumIdeal(r, first, second)
				isThatIdeal(t, "SumIdeal"+what, r, got, ok, multiplesBelow(n, greatestDivisor(a, b)))
				got, ok = impl.ProductIdeal(r, first, second)
				isThatIdeal(t, "ProductIdeal"+what, r, got, ok, multiplesBelow(n, greatestDivisor(n, a*b)))
				got, ok = impl.MeetIdeal(r, first, second)
				isThatIdeal(t, "MeetIdeal"+what, r, got, ok, multiplesBelow(n, a*b/greatestDivisor(a, b)))
				got, ok = impl.ColonIdeal(r, first, second)
				isThatIdeal(t, "ColonIdeal"+what, r, got, ok, multiplesBelow(n, a/greatestDivisor(a, b)))
				if got, want := impl.GeneratorOf(r, first), a%n; got != want {
					t.Errorf("GeneratorOf %v = %d, want %d", first, got, want)
				}
			}
		}
	}
}

func TestRadicalOf(t *testing.T) {
	for _, r := range idealRings() {
		for _, a := range impl.AllIdeals(r) {
			got, ok := impl.RadicalOf(r, a)
			isThatIdeal(t, "RadicalOf "+show(a...), r, got, ok, chosen(r, func(x int) bool {
				power := x
				for range 100 {
					if slices.Contains(a, power) {
						return true
					}
					power = productIn(r, power, x)
				}
				return false
			}))
			again, ok := impl.RadicalOf(r, got)
			isThatIdeal(t, "RadicalOf the radical", r, again, ok, got)
		}
		got, ok := impl.RadicalOf(r, []int{0})
		isThatIdeal(t, "RadicalOf 0", r, got, ok, impl.NilpotentsOf(r))
	}
	for text, want := range map[string][]int{"16": multiplesBelow(16, 2), "12": {0, 6}, "2[0,0,0,0]": multiplesBelow(16, 2), "7": {0}} {
		got, ok := impl.RadicalOf(made(t, text), []int{0})
		isThatIdeal(t, "RadicalOf 0", made(t, text), got, ok, want)
	}
}

// isPrimeOf reports whether an ideal is not the whole ring and has no product of two elements that it does not have.
func isPrimeOf(r impl.Ring, a []int) bool {
	others := chosen(r, func(x int) bool { return !slices.Contains(a, x) })
	for _, x := range others {
		for _, y := range others {
			if slices.Contains(a, productIn(r, x, y)) {
				return false
			}
		}
	}
	return len(others) > 0
}

// isMaximalOf reports whether just two of all ideals have all elements of an ideal.
func isMaximalOf(ideals [][]int, a []int) bool {
	count := 0
	for _, ideal := range ideals {
		if hasEach(ideal, a) {
			count++
		}
	}
	return count == 2
}

// TestPrimeIsMaximal checks both kinds of ideals, which are the same ones.
func TestPrimeIsMaximal(t *testing.T) {
	for _, r := range idealRings() {
		ideals := impl.AllIdeals(r)
		for _, a := range ideals {
			prime, maximal := impl.IsPrimeIdeal(r, a), impl.IsMaximalIdeal(r, a)
			if prime != isPrimeOf(r, a) || maximal != isMaximalOf(ideals, a) || prime != maximal {
				t.Errorf("%v in %s: IsPrimeIdeal = %v, IsMaximalIdeal = %v", a, impl.FormatRing(r), prime, maximal)
			}
		}
	}
}

func TestPrimeIdealsOfKnownRings(t *testing.T) {
	for text, want := range map[string][][]int{
		"1":       nil,
		"7":       {{0}},
		"8":       {{0, 2, 4, 6}},
		"12":      {{0, 3, 6, 9}, {0, 2, 4, 6, 8, 10}},
		"2x2":     {{0, 1}, {0, 2}},
		"2x3":     {{0, 3}, {0, 1, 2}},
		"2[1,1]":  {{0}},
		"4[0,0]":  {{0, 2, 4, 6, 8, 10, 12, 14}},
		"2x2x2x2": {numbersBelow(8), {0, 1, 2, 3, 8, 9, 10, 11}, {0, 1, 4, 5, 8, 9, 12, 13}, {0, 2, 4, 6, 8, 10, 12, 14}},
	} {
		r := made(t, text)
		var primes, maximals [][]int
		for _, a := range impl.AllIdeals(r) {
			if impl.IsPrimeIdeal(r, a) {
				primes = append(primes, a)
			}
			if impl.IsMaximalIdeal(r, a) {
				maximals = append(maximals, a)
			}
		}
		if !slices.EqualFunc(primes, want, slices.Equal) || !slices.EqualFunc(maximals, want, slices.Equal) {
			t.Errorf("%s has the prime ideals %v and the maximal ones %v, want %v", text, primes, maximals, want)
		}
	}
}

func TestGeneratorOf(t *testing.T) {
	for _, r := range idealRings() {
		ideals := impl.AllIdeals(r)
		for _, a := range ideals {
			want := slices.IndexFunc(numbersBelow(r.Size), func(g int) bool { return slices.Equal(fewest(ideals, []int{g}), a) })
			if got := impl.GeneratorOf(r, a); got != want {
				t.Errorf("GeneratorOf %v in %s = %d, want %d", a, impl.FormatRing(r), got, want)
			}
		}
	}
}

// TestIdealsOfNoGenerator has ideals that two elements make, but no single one.
func TestIdealsOfNoGenerator(t *testing.T) {
	for _, c := range []struct {
		ring    impl.Ring
		by      []int
		ideal   []int
		square  []int
		colon   []int
		isPrime bool
	}{
		{flatRing(3), []int{4, 2}, []int{0, 2, 4, 6}, []int{0}, []int{0, 2, 4, 6}, true},
		{flatRing(4), []int{2, 4}, []int{0, 2, 4, 6}, []int{0}, multiplesBelow(16, 2), false},
		{flatRing(4), []int{8, 4, 2}, multiplesBelow(16, 2), []int{0}, multiplesBelow(16, 2), true},
		{mixedRing(0), []int{2, 4}, []int{0, 2, 4, 6}, []int{0}, []int{0, 2, 4, 6}, true},
		{made(t, "4[0,0]"), []int{4, 2}, multiplesBelow(16, 2), []int{0, 8}, []int{0, 8}, true},
		{polynomialRing(made(t, "2[0,0]"), []int{0, 0}), []int{2, 4}, multiplesBelow(16, 2), []int{0, 8}, []int{0, 8}, true},
	} {
		r := c.ring
		if got := impl.GeneratorOf(r, c.ideal); got != -1 {
			t.Errorf("GeneratorOf %v in %s = %d", c.ideal, impl.FormatRing(r), got)
		}
		got, ok := impl.IdealOf(r, c.by)
		isThatIdeal(t, "IdealOf "+show(c.by...), r, got, ok, c.ideal)
		got, ok = impl.ProductIdeal(r, c.ideal, c.ideal)
		isThatIdeal(t, "ProductIdeal", r, got, ok, c.square)
		got, ok = impl.ColonIdeal(r, []int{0}, c.ideal)
		isThatIdeal(t, "ColonIdeal", r, got, ok, c.colon)
		if impl.IsPrimeIdeal(r, c.ideal) != c.isPrime || impl.IsMaximalIdeal(r, c.ideal) != c.isPrime {
			t.Errorf("%v in %s: IsPrimeIdeal and IsMaximalIdeal are not both %v", c.ideal, impl.FormatRing(r), c.isPrime)
		}
	}
}

// TestZeroAndWhole has the ideal of 0 and the whole ring with each other ideal.
func TestZeroAndWhole(t *testing.T) {
	for _, r := range idealRings() {
		zero, whole := []int{0}, numbersBelow(r.Size)
		for _, a := range impl.AllIdeals(r) {
			// Nil stands for a result that is not the same for all ideals.
			for name, want := range map[string][5][]int{
				"SumIdeal":     {a, a, whole, whole, a},
				"ProductIdeal": {zero, zero, a, a, nil},
				"MeetIdeal":    {zero, zero, a, a, a},
				"ColonIdeal":   {whole, nil, a, whole, whole},
			} {
				for i, pair := range [][2][]int{{a, zero}, {zero, a}, {a, whole}, {whole, a}, {a, a}} {
					if want[i] != nil {
						got, ok := twoIdeals()[name](r, pair[0], pair[1])
						isThatIdeal(t, name+" "+show(i), r, got, ok, want[i])
					}
				}
			}
		}
		if impl.GeneratorOf(r, zero) != 0 || !impl.IsIdeal(r, zero) || !impl.IsIdeal(r, whole) || impl.IsPrimeIdeal(r, whole) || impl.IsMaximalIdeal(r, whole) {
			t.Errorf("the ideal of 0 or the whole ring in %s", impl.FormatRing(r))
		}
		if field := impl.IsField(r); impl.IsPrimeIdeal(r, zero) != field || impl.IsMaximalIdeal(r, zero) != field {
			t.Errorf("IsPrimeIdeal or IsMaximalIdeal of 0 in %s is not %v", impl.FormatRing(r), field)
		}
		if got, want := impl.GeneratorOf(r, whole), impl.UnitsOf(r)[0]; got != want {
			t.Errorf("GeneratorOf the whole ring %s = %d, want %d", impl.FormatRing(r), got, want)
		}
		got, ok := impl.RadicalOf(r, whole)
		isThatIdeal(t, "RadicalOf the whole ring", r, got, ok, whole)
		got, ok = impl.IdealOf(r, []int{r.One})
		isThatIdeal(t, "IdealOf One", r, got, ok, whole)
	}
}

func TestIdealsOfRingOfOne(t *testing.T) {
	one, zero := remainders(1), []int{0}
	if all := impl.AllIdeals(one); len(all) != 1 || !slices.Equal(all[0], zero) {
		t.Errorf("AllIdeals = %v", all)
	}
	for _, list := range [][]int{nil, {0}, {0, 0, 0}} {
		got, ok := impl.IdealOf(one, list)
		isThatIdeal(t, "IdealOf "+show(list...), one, got, ok, zero)
		if got, want := impl.IsIdeal(one, list), len(list) == 1; got != want {
			t.Errorf("IsIdeal of %v = %v", list, got)
		}
	}
	for name, f := range twoIdeals() {
		got, ok := f(one, zero, zero)
		isThatIdeal(t, name, one, got, ok, zero)
	}
	got, ok := impl.RadicalOf(one, zero)
	isThatIdeal(t, "RadicalOf", one, got, ok, zero)
	if impl.IsPrimeIdeal(one, zero) || impl.IsMaximalIdeal(one, zero) || impl.GeneratorOf(one, zero) != 0 {
		t.Errorf("IsPrimeIdeal = %v, IsMaximalIdeal = %v, GeneratorOf = %d", impl.IsPrimeIdeal(one, zero), impl.IsMaximalIdeal(one, zero), impl.GeneratorOf(one, zero))
	}
}

// refusesIdeal checks what the functions return for a list that is no ideal; good is an ideal if the ring is valid.
func refusesIdeal(t *testing.T, what string, r impl.Ring, list, good []int) {
	t.Helper()
	what += " " + show(list...)
	if impl.IsIdeal(r, list) || impl.IsPrimeIdeal(r, list) || impl.IsMaximalIdeal(r, list) || impl.GeneratorOf(r, list) != -1 {
		t.Errorf("%s: IsIdeal = %v, IsPrimeIdeal = %v, IsMaximalIdeal = %v, GeneratorOf = %d", what, impl.IsIdeal(r, list), impl.IsPrimeIdeal(r, list), impl.IsMaximalIdeal(r, list), impl.GeneratorOf(r, list))
	}
	radical, ok := impl.RadicalOf(r, list)
	isNoList(t, what+": RadicalOf", radical, ok)
	for name, f := range twoIdeals() {
		for i, pair := range [][2][]int{{list, good}, {good, list}, {list, list}} {
			got, ok := f(r, pair[0], pair[1])
			isNoList(t, what+": "+name+" "+show(i), got, ok)
		}
	}
}

// eachNoIdeal visits lists that are no ideals, with an ideal of the same ring.
func eachNoIdeal(visit func(what string, r impl.Ring, list, good []int)) {
	for _, list := range [][]int{
		nil, {}, {1}, {2}, {4}, {0, 1}, {0, 4}, {0, 8}, {0, 6, 8}, {4, 8}, {6}, {2, 4, 6, 8, 10}, numbersBelow(11), // too few elements
		{0, 8, 4}, {4, 0, 8}, {6, 0}, {10, 8, 6, 4, 2, 0}, {0, 0}, {0, 0, 6}, {0, 6, 6}, {0, 4, 4, 8}, // not in order
		{-1}, {12}, {0, 12}, {-6, 0, 6}, {0, 4, 8, 12}, {-1, 0}, numbersBelow(13), numbersBelow(17), {math.MinInt}, {0, math.MaxInt}, // no elements
	} {
		visit("by 12", remainders(12), list, []int{0, 6})
	}
	for _, r := range idealRings() {
		all := numbersBelow(r.Size)
		for _, list := range [][]int{nil, {0, r.Size}, append(numbersBelow(r.Size), r.Size), append([]int{-1}, all...), append([]int{0}, all...)} {
			visit(impl.FormatRing(r), r, list, []int{0})
		}
	}
}

func TestFunctionsOfNoIdeals(t *testing.T) {
	eachNoIdeal(func(what string, r impl.Ring, list, good []int) { refusesIdeal(t, what, r, list, good) })
}

func TestIdealOfNoElements(t *testing.T) {
	for _, r := range idealRings() {
		for _, a := range []int{-1, -r.Size, r.Size, r.Size + 1, math.MaxInt, math.MinInt} {
			for _, list := range [][]int{{a}, {0, a}, {a, 0}, {0, a, r.One}} {
				got, ok := impl.IdealOf(r, list)
				isNoList(t, impl.FormatRing(r)+": IdealOf "+show(list...), got, ok)
			}
		}
	}
}

func TestIdealsOfBadRings(t *testing.T) {
	for name, r := range badRings() {
		if all := impl.AllIdeals(r); len(all) != 0 {
			t.Errorf("%s: AllIdeals = %v", name, all)
		}
		for _, list := range [][]int{nil, {0}, {0, 2}, {2, 0}, {-1}, {4}, {16}, numbersBelow(4), numbersBelow(17), {math.MinInt}, {math.MaxInt}} {
			got, ok := impl.IdealOf(r, list)
			isNoList(t, name+": IdealOf "+show(list...), got, ok)
			refusesIdeal(t, name, r, list, []int{0})
		}
	}
}

// overwrite writes over all that lies in the memory of a list, behind its end too.
func overwrite(list []int) {
	for i := range list[:cap(list)] {
		list[:cap(list)][i] = -9
	}
}

// TestIdealsMemory checks that arguments, and what lies behind their ends, stay as they are, and that results have memory of their own.
func TestIdealsMemory(t *testing.T) {
	plain := remainders(12)
	sums, sumsKept := guarded(plain.Sums)
	products, productsKept := guarded(plain.Products)
	a, aKept := guarded([]int{0, 2, 4, 6, 8, 10})
	b, bKept := guarded([]int{0, 3, 6, 9})
	loose, looseKept := guarded([]int{8, 6, 8})
	kept := func() bool { return sumsKept() && productsKept() && aKept() && bKept() && looseKept() }
	r := impl.Ring{Size: 12, One: 1, Sums: sums, Products: products}
	calls := map[string]func() ([]int, bool){
		"IdealOf of an ideal":   func() ([]int, bool) { return impl.IdealOf(r, a) },
		"IdealOf of a list":     func() ([]int, bool) { return impl.IdealOf(r, loose) },
		"IdealOf of nothing":    func() ([]int, bool) { return impl.IdealOf(r, nil) },
		"RadicalOf":             func() ([]int, bool) { return impl.RadicalOf(r, a) },
		"MeetIdeal with itself": func() ([]int, bool) { return impl.MeetIdeal(r, a, a) },
	}
	for name, f := range twoIdeals() {
		calls[name] = func() ([]int, bool) { return f(r, a, b) }
	}
	for name, call := range calls {
		first, _ := call()
		again, ok := call()
		want := slices.Clone(again)
		overwrite(first)
		if !ok || !slices.Equal(again, want) || !kept() {
			t.Errorf("%s: memory is shared or changed", name)
		}
	}
	first, again := impl.AllIdeals(r), impl.AllIdeals(r)
	for i, ideal := range first {
		overwrite(ideal)
		for _, other := range first[i+1:] {
			if !impl.IsIdeal(r, other) {
				t.Errorf("AllIdeals: ideal %d shares its memory with %v", i, other)
			}
		}
	}
	if !slices.EqualFunc(again, triedIdeals(plain), slices.Equal) {
		t.Errorf("AllIdeals: memory is shared")
	}
	impl.IsIdeal(r, loose)
	impl.IsPrimeIdeal(r, a)
	impl.IsMaximalIdeal(r, b)
	impl.GeneratorOf(r, a)
	if !kept() {
		t.Error("an argument has changed")
	}
}
