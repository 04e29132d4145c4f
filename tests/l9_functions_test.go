package tests

import (
	"math"
	"slices"
	"strconv"
	"sync"
	"testing"

	"loop.example/finiterings/impl"
)

// trimmed returns a list without the zeros at its end.
func trimmed(list []int) []int {
	for len(list) > 0 && list[len(list)-1] == 0 {
		list = list[:len(list)-1]
	}
	return list
}

// isPolynomial reports whether a list has at most 8 elements of a ring, of which the last one is not 0.
func isPolynomial(r impl.Ring, f []int) bool {
	return len(f) <= 8 && hasEach(numbersBelow(r.Size), f) && len(trimmed(f)) == len(f)
}

// negativeIn returns the element whose sum with one is 0, by the table of a ring.
func negativeIn(r impl.Ring, a int) int {
	return chosen(r, func(b int) bool { return sumIn(r, a, b) == 0 })[0]
}

// valueIn returns the sum of the products of coefficients and powers of an element.
func valueIn(r impl.Ring, f []int, a int) int {
	value, power := 0, r.One
	for _, c := range f {
		value = sumIn(r, value, productIn(r, c, power))
		power = productIn(r, power, a)
	}
	return value
}

// valuesIn returns the values of a polynomial at all elements.
func valuesIn(r impl.Ring, f []int) []int {
	var values []int
	for a := range r.Size {
		values = append(values, valueIn(r, f, a))
	}
	return values
}

// sumOfPolynomials returns the list of the sums of the coefficients of each degree.
func sumOfPolynomials(r impl.Ring, f, g []int) []int {
	list := make([]int, max(len(f), len(g)))
	for i := range list {
		if i < len(f) {
			list[i] = f[i]
		}
		if i < len(g) {
			list[i] = sumIn(r, list[i], g[i])
		}
	}
	return trimmed(list)
}

// productOfPolynomials returns, for each degree, the sum of the products of coefficients whose degrees have it as their sum.
func productOfPolynomials(r impl.Ring, f, g []int) []int {
	list := make([]int, len(f)+len(g))
	for degree := range list {
		for i := range f {
			if j := degree - i; 0 <= j && j < len(g) {
				list[degree] = sumIn(r, list[degree], productIn(r, f[i], g[j]))
			}
		}
	}
	return trimmed(list)
}

// derivativeIn returns the list of the sums of as many times each coefficient as its degree tells.
func derivativeIn(r impl.Ring, f []int) []int {
	var list []int
	for degree := 1; degree < len(f); degree++ {
		sum := 0
		for range degree {
			sum = sumIn(r, sum, f[degree])
		}
		list = append(list, sum)
	}
	return trimmed(list)
}

// allPolynomials returns all polynomials over a ring with so many coefficients at most.
func allPolynomials(r impl.Ring, count int) [][]int {
	var all [][]int
	for code := range powerOf(r.Size, count) {
		all = append(all, trimmed(numbersOf(code, r.Size, count)))
	}
	return all
}

// scattered returns a function that tells numbers below given ones, the same in each run.
func scattered(start int) func(n int) int {
	state := uint64(start)
	return func(n int) int {
		state = state*6364136223846793005 + 1442695040888963407
		return int(state>>33) % n
	}
}

// manyPolynomials returns 0 and, with each number of coefficients, polynomials whose last one is One, any, or, if there is such a one, a zero divisor.
func manyPolynomials(r impl.Ring) [][]int {
	polynomials := [][]int{nil}
	if r.Size == 1 {
		return polynomials
	}
	next := scattered(r.Size)
	divisors := chosen(r, func(a int) bool { return a != 0 && divides(r, a) })
	for count := range 8 {
		lasts := []int{r.One, 1 + next(r.Size-1)}
		if len(divisors) > 0 {
			lasts = append(lasts, divisors[next(len(divisors))])
		}
		for _, last := range lasts {
			var f []int
			for range count {
				f = append(f, next(r.Size))
			}
			polynomials = append(polynomials, append(f, last))
		}
	}
	return polynomials
}

// eachFunction visits many polynomials over rings of several kinds, over small ones all with few coefficients.
func eachFunction(t *testing.T, visit func(r impl.Ring, f []int)) {
	t.Helper()
	for _, r := range remainderRings(t) {
		few := 1
		if r.Size <= 4 {
			few = 3
		}
		for _, f := range append(allPolynomials(r, few), manyPolynomials(r)...) {
			visit(r, f)
		}
	}
}

// eachTwoFunctions visits pairs of polynomials over rings of several kinds, over small ones all pairs with few coefficients.
func eachTwoFunctions(t *testing.T, visit func(r impl.Ring, f, g []int)) {
	t.Helper()
	for _, r := range remainderRings(t) {
		some := manyPolynomials(r)
		if r.Size <= 4 {
			some = append(some, allPolynomials(r, 2)...)
		}
		for _, f := range some {
			for _, g := range some {
				visit(r, f, g)
			}
		}
	}
}

// isPoly checks that a function has returned a polynomial and true.
func isPoly(t *testing.T, what string, r impl.Ring, got []int, ok bool, want []int) {
	t.Helper()
	isList(t, what, r, got, want)
	if !ok {
		t.Errorf("%s in %s returned false", what, impl.FormatRing(r))
	}
}

// isQuotient checks that DividePoly returns two polynomials and true; there are no other two with the sum and the coefficients that are asked for, since the last coefficient of g is a unit.
func isQuotient(t *testing.T, r impl.Ring, f, g []int) {
	t.Helper()
	quotient, rest, ok := impl.DividePoly(r, f, g)
	if !ok || !isPolynomial(r, quotient) || !isPolynomial(r, rest) || len(rest) >= len(g) {
		t.Errorf("DividePoly in %s of %v by %v = %v, %v, %v", impl.FormatRing(r), f, g, quotient, rest, ok)
		return
	}
	isList(t, "the sum of the rest and the product of the quotient for "+show(f...)+" by "+show(g...), r, sumOfPolynomials(r, productOfPolynomials(r, quotient, g), rest), f)
}

// isNotDivided checks that DividePoly returns two empty slices and false.
func isNotDivided(t *testing.T, what string, r impl.Ring, f, g []int) {
	t.Helper()
	quotient, rest, ok := impl.DividePoly(r, f, g)
	if len(quotient) != 0 || len(rest) != 0 || ok {
		t.Errorf("%s: DividePoly of %v by %v = %v, %v, %v", what, f, g, quotient, rest, ok)
	}
}

// TestPolyValid tries all short lists of numbers around the elements of some rings.
func TestPolyValid(t *testing.T) {
	for _, r := range []impl.Ring{remainders(1), remainders(2), remainders(3), turned(remainders(3)), remainders(4), fieldOfFour()} {
		for count := range 5 {
			for code := range powerOf(r.Size+2, count) {
				f := numbersOf(code, r.Size+2, count)
				for i := range f {
					f[i]--
				}
				if got := impl.PolyValid(r, f); got != isPolynomial(r, f) {
					t.Errorf("PolyValid(%s, %v) = %v", impl.FormatRing(r), f, got)
				}
			}
		}
	}
}

// TestPolyLengths has lists with each number of coefficients around the limit.
func TestPolyLengths(t *testing.T) {
	if impl.MaxCoefficients != 8 {
		t.Errorf("MaxCoefficients = %d", impl.MaxCoefficients)
	}
	for _, r := range remainderRings(t) {
		for count := range 20 {
			zeros := make([]int, count)
			if impl.PolyValid(r, zeros) != (count == 0) {
				t.Errorf("PolyValid(%s, %v) = %v", impl.FormatRing(r), zeros, count != 0)
			}
			for last := 1; last < r.Size; last++ {
				if f := append(slices.Clone(zeros), last); impl.PolyValid(r, f) != (len(f) <= 8) {
					t.Errorf("PolyValid(%s, %v) = %v", impl.FormatRing(r), f, len(f) > 8)
				}
			}
		}
	}
}

func TestEvalPolyAndZerosOf(t *testing.T) {
	eachFunction(t, func(r impl.Ring, f []int) {
		var got []int
		for a := range r.Size {
			got = append(got, impl.EvalPoly(r, f, a))
		}
		isList(t, "the values of "+show(f...), r, got, valuesIn(r, f))
		isList(t, "ZerosOf "+show(f...), r, impl.ZerosOf(r, f), chosen(r, func(a int) bool { return valueIn(r, f, a) == 0 }))
	})
}

func TestZerosOfKnownRings(t *testing.T) {
	for _, c := range []struct {
		text string
		f    []int
		want []int
	}{
		{"9", []int{2, 0, 1}, []int{4, 5}},
		{"8", []int{7, 0, 1}, []int{1, 3, 5, 7}}, // more zeros than the degree
		{"6", []int{0, 5, 1}, []int{0, 1, 3, 4}},
		{"12", nil, numbersBelow(12)},
		{"12", []int{5}, nil},
		{"12", []int{6, 2}, []int{3, 9}},
		{"12", []int{0, 6}, []int{0, 2, 4, 6, 8, 10}},
		{"7", []int{1, 0, 1}, nil},
		{"5", []int{1, 0, 1}, []int{2, 3}},
		{"2[1,1]", []int{1, 1, 1}, []int{2, 3}},
		{"2[1,1]", []int{0, 1, 0, 0, 1}, []int{0, 1, 2, 3}},
		{"2[0,0]", []int{0, 0, 1}, []int{0, 2}},
		{"16", []int{0, 0, 0, 0, 0, 0, 0, 1}, []int{0, 2, 4, 6, 8, 10, 12, 14}},
		{"1", nil, []int{0}},
	} {
		r := made(t, c.text)
		isList(t, "ZerosOf "+show(c.f...), r, impl.ZerosOf(r, c.f), c.want)
	}
}

func TestSameFunction(t *testing.T) {
	eachTwoFunctions(t, func(r impl.Ring, f, g []int) {
		if got, want := impl.SameFunction(r, f, g), slices.Equal(valuesIn(r, f), valuesIn(r, g)); got != want {
			t.Errorf("SameFunction in %s of %v and %v = %v", impl.FormatRing(r), f, g, got)
		}
	})
}

// TestSameFunctionByOneValue has polynomials over fields that differ at just one element.
func TestSameFunctionByOneValue(t *testing.T) {
	for _, r := range []impl.Ring{remainders(2), remainders(3), remainders(5), remainders(7), fieldOfFour(), turned(remainders(7)), polynomialRing(remainders(2), []int{1, 1, 0})} {
		for a := range r.Size {
			peak := []int{r.One} // 0 at all elements but a
			for b := range r.Size {
				if b != a {
					peak = productOfPolynomials(r, peak, []int{negativeIn(r, b), r.One})
				}
			}
			line := []int{r.Size - 1, r.One}
			sum := sumOfPolynomials(r, peak, line)
			if impl.SameFunction(r, peak, nil) || impl.SameFunction(r, nil, peak) || impl.SameFunction(r, sum, line) || !impl.SameFunction(r, sum, sum) {
				t.Errorf("SameFunction in %s of %v", impl.FormatRing(r), peak)
			}
			isList(t, "ZerosOf "+show(peak...), r, impl.ZerosOf(r, peak), chosen(r, func(b int) bool { return b != a }))
		}
	}
}

func TestSameFunctionOfKnownRings(t *testing.T) {
	for _, c := range []struct {
		text string
		f, g []int
		want bool
	}{
		{"4", []int{0, 2, 2}, nil, true},
		{"4", nil, []int{0, 2, 2}, true},
		{"4", []int{1, 2}, []int{1, 0, 2}, true},
		{"4", []int{0, 1}, []int{0, 0, 1}, false},
		{"5", []int{0, 0, 0, 0, 0, 1}, []int{0, 1}, true}, // the fifth power is the element
		{"5", []int{0, 0, 0, 0, 1}, []int{1}, false},      // but at 0
		{"6", []int{0, 0, 0, 1}, []int{0, 1}, true},
		{"8", []int{0, 0, 4}, []int{0, 4}, true},
		{"8", []int{0, 0, 2}, []int{0, 2}, false},
		{"2[1,1]", []int{0, 0, 0, 0, 1}, []int{0, 1}, true},
		{"2[1,1]", []int{0, 0, 1}, []int{0, 1}, false}, // the same at 0 and 1
		{"2x2", []int{0, 0, 1}, []int{0, 1}, true},
		{"1", nil, nil, true},
	} {
		r := made(t, c.text)
		if got := impl.SameFunction(r, c.f, c.g); got != c.want {
			t.Errorf("SameFunction in %s of %v and %v = %v", c.text, c.f, c.g, got)
		}
	}
}

func TestAddPolyAndMulPoly(t *testing.T) {
	eachTwoFunctions(t, func(r impl.Ring, f, g []int) {
		both := show(f...) + " and " + show(g...)
		sum, ok := impl.AddPoly(r, f, g)
		isPoly(t, "AddPoly "+both, r, sum, ok, sumOfPolynomials(r, f, g))
		want := productOfPolynomials(r, f, g)
		product, ok := impl.MulPoly(r, f, g)
		if len(want) > 8 {
			isNoList(t, "MulPoly "+both+" in "+impl.FormatRing(r), product, ok)
		} else {
			isPoly(t, "MulPoly "+both, r, product, ok, want)
		}
	})
}

func TestSumsOfKnownRings(t *testing.T) {
	for _, c := range []struct {
		text       string
		f, g, want []int
	}{
		{"4", []int{1, 2}, []int{3, 2}, nil},
		{"4", []int{1, 2, 3}, []int{3, 2, 3}, []int{0, 0, 2}},
		{"4", []int{1, 2, 3}, []int{0, 1, 1}, []int{1, 3}}, // the last coefficients have the sum 0
		{"4", []int{1, 2, 3}, []int{0, 2, 1}, []int{1}},
		{"4", []int{1}, []int{0, 2, 1}, []int{1, 2, 1}},
		{"4", []int{0, 2, 1}, []int{1}, []int{1, 2, 1}},
		{"4", nil, []int{3, 2, 1}, []int{3, 2, 1}},
		{"4", []int{3, 2, 1}, nil, []int{3, 2, 1}},
		{"4", nil, nil, nil},
		{"2[1,1]", []int{2, 3}, []int{3, 2}, []int{1, 1}},
		{"16", []int{15, 15, 15, 15, 15, 15, 15, 15}, []int{15, 15, 15, 15, 15, 15, 15, 15}, []int{14, 14, 14, 14, 14, 14, 14, 14}},
		{"16", []int{15, 15, 15, 15, 15, 15, 15, 15}, []int{1, 1, 1, 1, 1, 1, 1, 1}, nil},
		{"1", nil, nil, nil},
	} {
		r := made(t, c.text)
		got, ok := impl.AddPoly(r, c.f, c.g)
		isPoly(t, "AddPoly "+show(c.f...)+" and "+show(c.g...), r, got, ok, c.want)
	}
}

// TestProductsThatFall has products with fewer coefficients than the degrees tell, also where the degrees tell more than 8.
func TestProductsThatFall(t *testing.T) {
	for _, c := range []struct {
		text       string
		f, g, want []int
	}{
		{"4", []int{1, 2}, []int{1, 2}, []int{1}},
		{"4", []int{2}, []int{2}, nil},
		{"4", []int{0, 2}, []int{2, 2}, nil},
		{"6", []int{1, 2}, []int{1, 3}, []int{1, 5}},
		{"6", []int{0, 2}, []int{0, 3}, nil},
		{"4", []int{1, 0, 0, 0, 2}, []int{1, 0, 0, 0, 2}, []int{1}},                                        // 9 coefficients fall to 1
		{"4", []int{0, 0, 0, 0, 0, 0, 0, 2}, []int{0, 0, 0, 0, 0, 0, 0, 2}, nil},                           // 15 fall to none
		{"6", []int{0, 0, 0, 1, 2}, []int{1, 0, 0, 0, 3}, []int{0, 0, 0, 1, 2, 0, 0, 3}},                   // 9 fall to 8
		{"6", []int{1, 0, 0, 0, 0, 0, 0, 2}, []int{1, 0, 3}, []int{1, 0, 3, 0, 0, 0, 0, 2}},                // 10 fall to 8
		{"6", []int{1, 0, 0, 0, 0, 0, 0, 2}, []int{1, 0, 0, 0, 0, 0, 0, 3}, []int{1, 0, 0, 0, 0, 0, 0, 5}}, // 15 fall to 8
		{"2x2", []int{3, 1}, []int{3, 2}, []int{3, 3}},
		{"2x2", []int{0, 1}, []int{0, 2}, nil},
		{"2[0,0]", []int{1, 2}, []int{1, 2}, []int{1}},
	} {
		r := made(t, c.text)
		got, ok := impl.MulPoly(r, c.f, c.g)
		isPoly(t, "MulPoly "+show(c.f...)+" and "+show(c.g...), r, got, ok, c.want)
		got, ok = impl.MulPoly(r, c.g, c.f)
		isPoly(t, "MulPoly "+show(c.g...)+" and "+show(c.f...), r, got, ok, c.want)
	}
}

func TestProductsOfManyCoefficients(t *testing.T) {
	for _, r := range remainderRings(t) {
		for i := range 8 {
			for j := range 8 {
				if r.Size > 1 {
					f, g, want := append(make([]int, i), r.One), append(make([]int, j), r.One), append(make([]int, i+j), r.One)
					got, ok := impl.MulPoly(r, f, g)
					if i+j < 8 {
						isPoly(t, "MulPoly "+show(f...)+" and "+show(g...), r, got, ok, want)
					} else {
						isNoList(t, "MulPoly "+show(f...)+" and "+show(g...), got, ok)
					}
				}
			}
		}
	}
	for _, c := range []struct {
		text string
		f, g []int
	}{
		{"4", []int{0, 0, 0, 0, 1, 0, 0, 2}, []int{0, 0, 0, 0, 1, 0, 0, 2}}, // 15 coefficients fall to 9
		{"6", []int{0, 0, 0, 0, 1, 2}, []int{0, 0, 0, 0, 1, 3}},             // 11 fall to 10
		{"16", []int{0, 0, 0, 0, 3}, []int{0, 0, 0, 0, 5}},
		{"2", []int{0, 1}, []int{0, 0, 0, 0, 0, 0, 0, 1}},
		{"16", []int{0, 2}, []int{0, 0, 0, 0, 0, 0, 0, 4}},
	} {
		r := made(t, c.text)
		got, ok := impl.MulPoly(r, c.f, c.g)
		isNoList(t, c.text+": MulPoly", got, ok)
		got, ok = impl.MulPoly(r, c.g, c.f)
		isNoList(t, c.text+": MulPoly", got, ok)
	}
}

func TestDividePoly(t *testing.T) {
	eachTwoFunctions(t, func(r impl.Ring, f, g []int) {
		if len(g) == 0 || len(inverses(r, g[len(g)-1])) == 0 {
			isNotDivided(t, impl.FormatRing(r), r, f, g)
		} else {
			isQuotient(t, r, f, g)
		}
	})
}

// TestDivideByAllLastCoefficients has each element as the last coefficient of the divisor, with fewer, as many and more coefficients than the dividend has.
func TestDivideByAllLastCoefficients(t *testing.T) {
	for _, r := range remainderRings(t) {
		for last := 1; last < r.Size; last++ {
			for _, count := range []int{0, 1, 4, 7} {
				for _, f := range [][]int{nil, {last}, {r.One, 0, last}, {r.One, 0, 0, r.One, r.Size - 1}, {0, 0, 0, 0, 0, 0, 0, r.One}, slices.Repeat([]int{r.Size - 1}, 8)} {
					g := append(slices.Repeat([]int{r.Size - 1}, count), last)
					if len(inverses(r, last)) > 0 {
						isQuotient(t, r, f, g)
					} else {
						isNotDivided(t, impl.FormatRing(r), r, f, g)
					}
				}
			}
		}
	}
}

// TestDivideByTrying finds, over small rings, the only polynomial whose product with the divisor differs from the dividend by one with fewer coefficients.
func TestDivideByTrying(t *testing.T) {
	for _, r := range []impl.Ring{remainders(2), remainders(3), turned(remainders(3)), remainders(4), turned(remainders(4)), fieldOfFour(), pairs(2, 2)} {
		minusOne := negativeIn(r, r.One)
		all := allPolynomials(r, 3)
		for _, f := range all {
			for _, g := range allPolynomials(r, 2) {
				if len(g) == 0 || len(inverses(r, g[len(g)-1])) == 0 {
					isNotDivided(t, impl.FormatRing(r), r, f, g)
					continue
				}
				var found [][]int
				for _, quotient := range all {
					rest := sumOfPolynomials(r, f, productOfPolynomials(r, productOfPolynomials(r, []int{minusOne}, quotient), g))
					if len(rest) < len(g) {
						found = append(found, quotient, rest)
					}
				}
				quotient, rest, ok := impl.DividePoly(r, f, g)
				if got := [][]int{quotient, rest}; !ok || !slices.EqualFunc(got, found, slices.Equal) {
					t.Errorf("DividePoly in %s of %v by %v = %v, %v, want %v", impl.FormatRing(r), f, g, got, ok, found)
				}
			}
		}
	}
}

func TestDivideOfKnownRings(t *testing.T) {
	for _, c := range []struct {
		text                 string
		f, g, quotient, rest []int
	}{
		{"9", []int{2, 0, 1}, []int{5, 1}, []int{4, 1}, nil},
		{"9", []int{2, 0, 1}, []int{1, 1}, []int{8, 1}, []int{3}},
		{"4", []int{1, 2, 3}, []int{1, 3}, []int{3, 1}, []int{2}},
		{"4", []int{1, 2, 3}, []int{3}, []int{3, 2, 1}, nil}, // by a constant
		{"4", []int{1, 2}, []int{1, 2, 3}, nil, []int{1, 2}}, // fewer coefficients
		{"4", []int{1, 2, 3}, []int{1, 2, 3}, []int{1}, nil},
		{"4", nil, []int{1, 1}, nil, nil},
		{"4", []int{0, 0, 0, 2}, []int{2, 1}, []int{0, 0, 2}, nil}, // the product falls, but the last coefficient is a unit
		{"16", []int{0, 0, 0, 0, 0, 0, 0, 1}, []int{15, 1}, []int{1, 1, 1, 1, 1, 1, 1}, []int{1}},
		{"16", []int{0, 0, 0, 0, 0, 0, 0, 1}, []int{0, 0, 0, 0, 0, 0, 0, 3}, []int{11}, nil},
		{"2[1,1]", []int{1, 1, 1}, []int{2, 1}, []int{3, 1}, nil},
		{"2[1,1]", []int{0, 0, 1}, []int{1, 2}, []int{2, 3}, []int{2}},
	} {
		r := made(t, c.text)
		quotient, rest, ok := impl.DividePoly(r, c.f, c.g)
		isPoly(t, "the quotient of "+show(c.f...)+" by "+show(c.g...), r, quotient, ok, c.quotient)
		isPoly(t, "the rest of "+show(c.f...)+" by "+show(c.g...), r, rest, ok, c.rest)
	}
}

// TestNotDivided has divisors whose last coefficient is no unit, also where there is a quotient.
func TestNotDivided(t *testing.T) {
	for _, c := range []struct {
		text string
		f, g []int
	}{
		{"4", []int{1, 2, 3}, nil},
		{"4", nil, nil},
		{"4", nil, []int{2}},
		{"4", []int{2}, []int{2}},
		{"4", []int{0, 2}, []int{0, 2}},
		{"4", []int{1, 2}, []int{1, 2}},
		{"4", []int{1}, []int{1, 2}},       // 1 plus 2 times x has an inverse
		{"4", []int{1}, []int{0, 0, 0, 2}}, // 1 has fewer coefficients
		{"6", []int{0, 1}, []int{1, 3}},
		{"12", []int{0, 0, 8}, []int{0, 4}},
		{"2x2", []int{1}, []int{1}},
		{"2x2", []int{0, 3}, []int{3, 2}},
		{"2[0,0]", []int{0, 0, 1}, []int{1, 2}},
		{"1", nil, nil},
	} {
		isNotDivided(t, c.text, made(t, c.text), c.f, c.g)
	}
}

func TestDerivePoly(t *testing.T) {
	eachFunction(t, func(r impl.Ring, f []int) {
		got, ok := impl.DerivePoly(r, f)
		isPoly(t, "DerivePoly "+show(f...), r, got, ok, derivativeIn(r, f))
	})
	for _, c := range []struct {
		text    string
		f, want []int
	}{
		{"4", []int{1, 3, 2, 1}, []int{3, 0, 3}},
		{"4", []int{0, 0, 2}, nil},
		{"4", []int{0, 1, 0, 0, 1}, []int{1}}, // falls by several degrees
		{"9", []int{2, 0, 1}, []int{0, 2}},
		{"9", []int{7}, nil},
		{"9", nil, nil},
		{"2[1,1]", []int{2, 3, 2, 2}, []int{3, 0, 2}},
		{"2x4", []int{0, 5, 5, 5}, []int{5, 2, 7}},
		{"16", []int{15, 15, 15, 15, 15, 15, 15, 15}, []int{15, 14, 13, 12, 11, 10, 9}},
		{"7", []int{0, 0, 0, 0, 0, 0, 0, 1}, nil},
		{"1", nil, nil},
	} {
		r := made(t, c.text)
		got, ok := impl.DerivePoly(r, c.f)
		isPoly(t, "DerivePoly "+show(c.f...), r, got, ok, c.want)
	}
}

// TestPolynomialsAsFunctions checks P9 by the functions' own results: sums, products and divisions hold for the values at all elements, and derivatives for sums and products.
func TestPolynomialsAsFunctions(t *testing.T) {
	at := func(r impl.Ring, f []int, a int) int { return impl.EvalPoly(r, f, a) }
	eachTwoFunctions(t, func(r impl.Ring, f, g []int) {
		sum, _ := impl.AddPoly(r, f, g)
		product, isProduct := impl.MulPoly(r, f, g)
		quotient, rest, isDivided := impl.DividePoly(r, f, g)
		for _, a := range []int{0, r.One, r.Size / 2, r.Size - 1} {
			first, second := at(r, f, a), at(r, g, a)
			if at(r, sum, a) != sumIn(r, first, second) || isProduct && at(r, product, a) != productIn(r, first, second) {
				t.Errorf("in %s the values of %v and %v at %d do not fit sum and product", impl.FormatRing(r), f, g, a)
			}
			if isDivided && sumIn(r, productIn(r, at(r, quotient, a), second), at(r, rest, a)) != first {
				t.Errorf("in %s the values of %v and %v at %d do not fit quotient and rest", impl.FormatRing(r), f, g, a)
			}
		}
		if !isProduct {
			return
		}
		got, ok := impl.DerivePoly(r, product)
		want := sumOfPolynomials(r, productOfPolynomials(r, derivativeIn(r, f), g), productOfPolynomials(r, f, derivativeIn(r, g)))
		isPoly(t, "the derivative of the product of "+show(f...)+" and "+show(g...), r, got, ok, want)
	})
}

// TestDivideByZeros checks that the rest by x minus an element is the value at it, so that zeros are those by which there is none.
func TestDivideByZeros(t *testing.T) {
	eachFunction(t, func(r impl.Ring, f []int) {
		if r.Size == 1 {
			return
		}
		zeros := chosen(r, func(a int) bool {
			_, rest, ok := impl.DividePoly(r, f, []int{negativeIn(r, a), r.One})
			isPoly(t, "the rest of "+show(f...)+" by "+show(a), r, rest, ok, trimmed([]int{valueIn(r, f, a)}))
			return len(rest) == 0
		})
		isList(t, "ZerosOf "+show(f...), r, impl.ZerosOf(r, f), zeros)
	})
}

// liftedIn returns all zeros of a polynomial that are the sum of an element and a nilpotent, none if it has no value and slope for lifting there.
func liftedIn(r impl.Ring, f []int, a int) []int {
	if !vanishes(r, valueIn(r, f, a)) || len(inverses(r, valueIn(r, derivativeIn(r, f), a))) == 0 {
		return nil
	}
	return chosen(r, func(b int) bool {
		return valueIn(r, f, b) == 0 && vanishes(r, sumIn(r, b, negativeIn(r, a)))
	})
}

func TestLiftZero(t *testing.T) {
	lifted, moved := 0, 0
	eachFunction(t, func(r impl.Ring, f []int) {
		for a := range r.Size {
			want := -1
			if zeros := liftedIn(r, f, a); len(zeros) > 0 {
				want = zeros[0]
				lifted++
				if want != a {
					moved++
				}
			}
			if got := impl.LiftZero(r, f, a); got != want {
				t.Errorf("LiftZero in %s of %v from %d = %d, want %d", impl.FormatRing(r), f, a, got, want)
			}
		}
	})
	if lifted < 1000 || moved < 500 {
		t.Errorf("only %d zeros are lifted, and only %d from elsewhere", lifted, moved)
	}
}

// TestLiftedZeros checks that each zero at which the derivative is a unit is lifted from all elements that differ by a nilpotent, and no other zero of these is there.
func TestLiftedZeros(t *testing.T) {
	eachFunction(t, func(r impl.Ring, f []int) {
		slope, _ := impl.DerivePoly(r, f)
		zeros := impl.ZerosOf(r, f)
		for _, zero := range zeros {
			if impl.InverseOf(r, impl.EvalPoly(r, slope, zero)) < 0 {
				continue
			}
			for _, n := range impl.NilpotentsOf(r) {
				near := sumIn(r, zero, n)
				if got := impl.LiftZero(r, f, near); got != zero || n != 0 && slices.Contains(zeros, near) {
					t.Errorf("LiftZero in %s of %v from %d = %d, want %d, the only one of %v", impl.FormatRing(r), f, near, got, zero, zeros)
				}
			}
		}
	})
}

func TestLiftZeroOfKnownRings(t *testing.T) {
	for _, c := range []struct {
		text    string
		f       []int
		a, want int
	}{
		{"9", []int{2, 0, 1}, 1, 4},
		{"9", []int{2, 0, 1}, 2, 5},
		{"9", []int{2, 0, 1}, 4, 4},
		{"9", []int{2, 0, 1}, 7, 4},
		{"9", []int{2, 0, 1}, 0, -1},       // the value is 2, which is not nilpotent
		{"9", []int{0, 0, 1}, 3, -1},       // a zero, but its derivative is no unit
		{"9", []int{3, 0, 1}, 0, -1},       // no zero at all
		{"4", []int{1, 0, 1}, 1, -1},       // the derivative is 0 or 2 everywhere
		{"16", []int{13, 0, 0, 1}, 1, 11},  // the cube root of 3, which takes several steps
		{"16", []int{13, 0, 0, 1}, 15, 11}, // from elsewhere
		{"16", []int{13, 0, 0, 1}, 2, -1},
		{"16", []int{2, 1, 1}, 0, 10},
		{"16", []int{2, 1, 0, 0, 0, 0, 0, 1}, 0, 14},
		{"8", []int{2, 1}, 0, 6},
		{"8", []int{2, 2}, 0, -1},
		{"6", []int{0, 5, 1}, 3, 3}, // no other nilpotent than 0, so only zeros are lifted
		{"6", []int{0, 5, 1}, 2, -1},
		{"12", []int{0, 11, 0, 1}, 6, 0},
		{"12", nil, 0, -1}, // the derivative is 0
		{"12", []int{6}, 0, -1},
		{"2[0,0]", []int{2, 1}, 0, 2},
		{"2[0,0,0,0]", []int{2, 1, 0, 1}, 0, 10},
		{"2x4", []int{0, 7, 1}, 2, 0},
		{"2[1,1]", []int{1, 1, 1}, 2, 2},
		{"2[1,1]", []int{1, 1, 1}, 1, -1},
		{"1", nil, 0, 0}, // 0 is a unit here
		{"1", nil, 1, -1},
	} {
		r := made(t, c.text)
		if got := impl.LiftZero(r, c.f, c.a); got != c.want {
			t.Errorf("LiftZero in %s of %v from %d = %d, want %d", c.text, c.f, c.a, got, c.want)
		}
	}
}

// textOfPolynomial returns the text of a polynomial, put together from the degree 0 on.
func textOfPolynomial(r impl.Ring, f []int) string {
	text := ""
	for degree, c := range f {
		term := strconv.Itoa(c)
		if degree > 0 {
			if c == r.One {
				term = ""
			} else {
				term += "*"
			}
			term += "x" + strconv.Itoa(degree)
		}
		if c != 0 && text == "" {
			text = term
		} else if c != 0 {
			text = term + "+" + text
		}
	}
	if text == "" {
		return "0"
	}
	return text
}

func TestFormatPoly(t *testing.T) {
	eachFunction(t, func(r impl.Ring, f []int) {
		if got, want := impl.FormatPoly(r, f), textOfPolynomial(r, f); got != want {
			t.Errorf("FormatPoly in %s of %v = %q, want %q", impl.FormatRing(r), f, got, want)
		}
	})
	turnedFour, _ := impl.RenameRing(remainders(4), []int{0, 3, 2, 1})
	for _, c := range []struct {
		r    impl.Ring
		f    []int
		want string
	}{
		{made(t, "9"), nil, "0"},
		{made(t, "9"), []int{1}, "1"},
		{made(t, "9"), []int{8}, "8"},
		{made(t, "9"), []int{2, 0, 1}, "x2+2"},
		{made(t, "9"), []int{0, 1}, "x1"},
		{made(t, "9"), []int{0, 2}, "2*x1"},
		{made(t, "9"), []int{1, 1}, "x1+1"},
		{made(t, "9"), []int{1, 5, 0, 8}, "8*x3+5*x1+1"},
		{made(t, "16"), []int{15, 14, 13, 12, 11, 10, 0, 1}, "x7+10*x5+11*x4+12*x3+13*x2+14*x1+15"},
		{made(t, "16"), []int{0, 0, 0, 0, 0, 0, 0, 15}, "15*x7"},
		{made(t, "2x2"), []int{3, 3, 1}, "1*x2+x1+3"}, // One is 3
		{turnedFour, []int{1, 3, 1}, "1*x2+x1+1"},
		{made(t, "4x4"), []int{5, 5, 15}, "15*x2+x1+5"},
		{made(t, "1"), nil, "0"},
	} {
		if got := impl.FormatPoly(c.r, c.f); got != c.want {
			t.Errorf("FormatPoly in %s of %v = %q, want %q", impl.FormatRing(c.r), c.f, got, c.want)
		}
	}
}

func TestPolynomialsOfRingOfOne(t *testing.T) {
	one := remainders(1)
	if !impl.PolyValid(one, nil) || impl.PolyValid(one, []int{0}) || impl.PolyValid(one, []int{1}) {
		t.Error("PolyValid")
	}
	sum, ok := impl.AddPoly(one, nil, []int{})
	isPoly(t, "AddPoly", one, sum, ok, nil)
	product, ok := impl.MulPoly(one, nil, []int{})
	isPoly(t, "MulPoly", one, product, ok, nil)
	slope, ok := impl.DerivePoly(one, nil)
	isPoly(t, "DerivePoly", one, slope, ok, nil)
	isNotDivided(t, "one", one, nil, nil)
	isList(t, "ZerosOf", one, impl.ZerosOf(one, nil), []int{0})
	if impl.EvalPoly(one, nil, 0) != 0 || impl.EvalPoly(one, nil, 1) != -1 || !impl.SameFunction(one, nil, nil) || impl.LiftZero(one, nil, 0) != 0 || impl.FormatPoly(one, nil) != "0" {
		t.Error("the ring of one element")
	}
	refusesPoly(t, "one", one, []int{0}, nil)
	refusesPoly(t, "one", one, []int{1}, nil)
}

// refusesPoly checks what the functions return for a list that is no polynomial; good is one if the ring is valid.
func refusesPoly(t *testing.T, what string, r impl.Ring, f, good []int) {
	t.Helper()
	if impl.PolyValid(r, f) || impl.FormatPoly(r, f) != "" || len(impl.ZerosOf(r, f)) != 0 {
		t.Errorf("%s: %v is taken as a polynomial: %v, %q, %v", what, f, impl.PolyValid(r, f), impl.FormatPoly(r, f), impl.ZerosOf(r, f))
	}
	for _, a := range []int{0, 1, 2, r.One, r.Size - 1, r.Size, -1} {
		if value, zero := impl.EvalPoly(r, f, a), impl.LiftZero(r, f, a); value != -1 || zero != -1 {
			t.Errorf("%s: %v has the value %d at %d, and the zero %d", what, f, value, a, zero)
		}
	}
	slope, ok := impl.DerivePoly(r, f)
	isNoList(t, what+": DerivePoly "+show(f...), slope, ok)
	for _, two := range [][][]int{{f, good}, {good, f}, {f, f}, {f, nil}, {nil, f}, {f, {r.One}}, {{r.One}, f}} {
		sum, ok := impl.AddPoly(r, two[0], two[1])
		isNoList(t, what+": AddPoly of "+show(f...), sum, ok)
		product, ok := impl.MulPoly(r, two[0], two[1])
		isNoList(t, what+": MulPoly of "+show(f...), product, ok)
		isNotDivided(t, what, r, two[0], two[1])
		if impl.SameFunction(r, two[0], two[1]) {
			t.Errorf("%s: SameFunction of %v and %v", what, two[0], two[1])
		}
	}
}

func TestNoPolynomials(t *testing.T) {
	for _, r := range remainderRings(t) {
		what, last := impl.FormatRing(r), r.Size-1
		good := trimmed([]int{last, r.One})
		for _, f := range [][]int{
			{0}, {0, 0}, {last, 0}, {r.One, last, 0}, make([]int, 8), make([]int, 9), append(slices.Repeat([]int{last}, 7), 0),
			append(make([]int, 8), r.One), append(make([]int, 8), last), slices.Repeat([]int{r.One}, 9), slices.Repeat([]int{last}, 9),
			append(slices.Repeat([]int{r.One}, 8), 0), slices.Repeat([]int{r.One}, 16), slices.Repeat([]int{last}, 1000),
		} {
			refusesPoly(t, what, r, f, good)
		}
		for _, a := range []int{-1, -r.Size, r.Size, r.Size + 1, 2 * r.Size, r.Size * r.Size, 16, 17, math.MaxInt, math.MinInt} {
			for _, f := range [][]int{{a}, {0, a}, {a, r.One}, {a, last}, {r.One, a, r.One}, {0, 0, 0, 0, 0, 0, 0, a}, {a, 0, 0, 0, 0, 0, 0, r.One}, {0, 0, 0, 0, 0, 0, a, r.One}} {
				refusesPoly(t, what, r, f, good)
			}
		}
	}
}

func TestPolynomialsAtNoElements(t *testing.T) {
	for _, r := range remainderRings(t) {
		lists := [][]int{nil}
		if r.Size > 1 {
			lists = append(lists, []int{r.One}, []int{0, r.One}, []int{r.Size - 1, r.One}, append(make([]int, 7), r.One))
		}
		for _, f := range lists {
			for _, a := range []int{-1, -r.Size, r.Size, r.Size + 1, 2 * r.Size, r.Size * r.Size, 16, 17, math.MaxInt, math.MinInt} {
				if value, zero := impl.EvalPoly(r, f, a), impl.LiftZero(r, f, a); value != -1 || zero != -1 {
					t.Errorf("in %s %v has the value %d at %d, and the zero %d", impl.FormatRing(r), f, value, a, zero)
				}
			}
		}
	}
}

func TestPolynomialsOfBadRings(t *testing.T) {
	for name, r := range badRings() {
		for _, f := range [][]int{nil, {}, {0}, {1}, {2}, {3}, {0, 1}, {2, 0, 1}, {3, 3, 3}, {-1}, {4}, {16}, {r.One}, {r.Size}, {r.Size - 1, r.One}, {0, 0, 0, 0, 0, 0, 0, 1}, {0, 0, 0, 0, 0, 0, 0, 0, 1}, {math.MaxInt}, {math.MinInt}} {
			refusesPoly(t, name, r, f, nil)
			refusesPoly(t, name, r, f, []int{1})
			refusesPoly(t, name, r, f, []int{0, 1})
		}
	}
}

// TestPolynomialsAgain calls the functions many times and at once, since neither other calls nor the order in which values are received may show in a result.
func TestPolynomialsAgain(t *testing.T) {
	nine, four := remainders(9), remainders(4)
	f := []int{2, 0, 1}
	var calling sync.WaitGroup
	for range 8 {
		calling.Go(func() {
			for range 200 {
				isList(t, "ZerosOf", nine, impl.ZerosOf(nine, f), []int{4, 5})
				isNotDivided(t, "no unit", four, []int{1, 2, 3}, []int{1, 2})
				isQuotient(t, nine, []int{1, 2, 3, 4}, f)
				if !impl.SameFunction(four, []int{0, 2, 2}, nil) || impl.SameFunction(nine, f, nil) || impl.LiftZero(nine, f, 1) != 4 || impl.SameFunction(impl.Ring{}, nil, nil) {
					t.Error("another result")
				}
			}
		})
	}
	calling.Wait()
}

// TestPolynomialsMemory checks that arguments, and what lies behind their ends, stay as they are, and that results have memory of their own.
func TestPolynomialsMemory(t *testing.T) {
	plain := remainders(9)
	sums, sumsKept := guarded(plain.Sums)
	products, productsKept := guarded(plain.Products)
	f, fKept := guarded([]int{2, 0, 1, 5})
	g, gKept := guarded([]int{5, 1})
	constant, constantKept := guarded([]int{1})
	kept := func() bool {
		return sumsKept() && productsKept() && fKept() && gKept() && constantKept()
	}
	r := impl.Ring{Size: 9, One: 1, Sums: sums, Products: products}
	for name, call := range map[string]func() []int{
		"AddPoly":               func() []int { list, _ := impl.AddPoly(r, f, g); return list },
		"AddPoly and 0":         func() []int { list, _ := impl.AddPoly(r, f, nil); return list },
		"AddPoly of 0":          func() []int { list, _ := impl.AddPoly(r, f[:0], f); return list },
		"AddPoly that falls":    func() []int { list, _ := impl.AddPoly(r, []int{0, 0, 0, 4}, f); return list },
		"MulPoly":               func() []int { list, _ := impl.MulPoly(r, f, g); return list },
		"MulPoly and 1":         func() []int { list, _ := impl.MulPoly(r, f, constant); return list },
		"MulPoly of 1":          func() []int { list, _ := impl.MulPoly(r, constant, f); return list },
		"DividePoly":            func() []int { list, _, _ := impl.DividePoly(r, f, g); return list },
		"DividePoly, rest":      func() []int { _, list, _ := impl.DividePoly(r, f, g); return list },
		"DividePoly by 1":       func() []int { list, _, _ := impl.DividePoly(r, f, constant); return list },
		"DividePoly, only rest": func() []int { _, list, _ := impl.DividePoly(r, g, f); return list },
		"DerivePoly":            func() []int { list, _ := impl.DerivePoly(r, f); return list },
		"ZerosOf":               func() []int { return impl.ZerosOf(r, g) },
		"ZerosOf 0":             func() []int { return impl.ZerosOf(r, f[:0]) },
	} {
		first, again := call(), call()
		want := slices.Clone(again)
		overwrite(first)
		if len(again) == 0 || !slices.Equal(again, want) || !slices.Equal(call(), want) || !kept() {
			t.Errorf("%s: memory is shared or changed", name)
		}
	}
	quotient, rest, ok := impl.DividePoly(r, []int{1, 2, 3, 4}, []int{2, 0, 1})
	overwrite(quotient)
	isPoly(t, "the rest", plain, rest, ok, []int{4, 3})
	quotient, rest, ok = impl.DividePoly(r, []int{1, 2, 3, 4}, []int{2, 0, 1})
	overwrite(rest)
	isPoly(t, "the quotient", plain, quotient, ok, []int{3, 4})
	if impl.EvalPoly(r, f, 2) != 1 || impl.LiftZero(r, f, 0) != -1 || !impl.SameFunction(r, f, f) || impl.FormatPoly(r, f) != "5*x3+x2+2" || !kept() {
		t.Error("an argument has changed")
	}
}
