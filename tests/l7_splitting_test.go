package tests

import (
	"math"
	"slices"
	"strings"
	"sync"
	"testing"

	"loop.example/finiterings/impl"
)

// turned returns a ring whose elements other than 0 have their numbers in the opposite order.
func turned(r impl.Ring) impl.Ring {
	name := func(a int) int { return (r.Size - a) % r.Size }
	sum := func(a, b int) int { return name(sumIn(r, name(a), name(b))) }
	product := func(a, b int) int { return name(productIn(r, name(a), name(b))) }
	return tabled(r.Size, name(r.One), sum, product)
}

// splitRings returns rings of all sizes with one part, several or none, in several orders of their elements.
func splitRings() []impl.Ring {
	rings := idealRings()
	for _, r := range rings {
		if r.Size > 2 {
			rings = append(rings, turned(r), swapped(r, 1, r.Size-1), swapped(r, 2, r.One))
		}
	}
	return rings
}

// idempotentsIn returns the elements of a ring that are their own square.
func idempotentsIn(r impl.Ring) []int {
	return chosen(r, func(a int) bool { return productIn(r, a, a) == a })
}

// primitivesIn returns the idempotents other than 0 that are no multiples of themselves by another one.
func primitivesIn(r impl.Ring) []int {
	idempotents := idempotentsIn(r)
	return chosen(r, func(e int) bool {
		isBelow := func(f int) bool { return f != 0 && f != e && productIn(r, e, f) == f }
		return e != 0 && slices.Contains(idempotents, e) && !slices.ContainsFunc(idempotents, isBelow)
	})
}

// multiplesIn returns the products of an element and all elements, in order.
func multiplesIn(r impl.Ring, e int) []int {
	return chosen(r, func(b int) bool {
		return slices.ContainsFunc(numbersBelow(r.Size), func(a int) bool { return productIn(r, e, a) == b })
	})
}

// cornerIn returns the ring of the products of an idempotent and all elements.
func cornerIn(r impl.Ring, e int) impl.Ring {
	list := multiplesIn(r, e)
	sum := func(a, b int) int { return slices.Index(list, sumIn(r, list[a], list[b])) }
	product := func(a, b int) int { return slices.Index(list, productIn(r, list[a], list[b])) }
	return tabled(len(list), slices.Index(list, e), sum, product)
}

// partsIn returns, for each primitive idempotent, the place of its product with an element among all such products.
func partsIn(r impl.Ring, a int) []int {
	var parts []int
	for _, e := range primitivesIn(r) {
		parts = append(parts, slices.Index(multiplesIn(r, e), productIn(r, e, a)))
	}
	return parts
}

// maximalIn returns how many maximal ideals a ring has.
func maximalIn(r impl.Ring) int {
	ideals, count := triedIdeals(r), 0
	for _, a := range ideals {
		if isMaximalOf(ideals, a) {
			count++
		}
	}
	return count
}

// mostFactors returns the greatest number of nilpotents whose product with an element is not 0.
func mostFactors(r impl.Ring, a int) int {
	most := 0
	for x := range r.Size {
		if p := productIn(r, a, x); p != 0 && vanishes(r, x) {
			most = max(most, 1+mostFactors(r, p))
		}
	}
	return most
}

// isCorner checks that CornerRing has returned a ring, some elements and true.
func isCorner(t *testing.T, r impl.Ring, e int, want impl.Ring, members []int) {
	t.Helper()
	what := "CornerRing " + show(e)
	got, list, ok := impl.CornerRing(r, e)
	isRing(t, what+" of "+impl.FormatRing(r), got, ok, want)
	isList(t, what, r, list, members)
}

// isNoCorner checks that CornerRing has returned the zero value, an empty slice and false.
func isNoCorner(t *testing.T, what string, r impl.Ring, e int) {
	t.Helper()
	got, list, ok := impl.CornerRing(r, e)
	isNoQuotient(t, what+": CornerRing "+show(e), got, list, ok)
}

// isJoined checks what JoinParts returns.
func isJoined(t *testing.T, r impl.Ring, parts []int, want int) {
	t.Helper()
	if got := impl.JoinParts(r, parts); got != want {
		t.Errorf("JoinParts %v in %s = %d, want %d", parts, impl.FormatRing(r), got, want)
	}
}

// isTheParts checks that PartsOf has returned some parts and true.
func isTheParts(t *testing.T, r impl.Ring, a int, want []int) {
	t.Helper()
	got, ok := impl.PartsOf(r, a)
	if !ok || !slices.Equal(got, want) {
		t.Errorf("PartsOf %d in %s = %v, %v, want %v", a, impl.FormatRing(r), got, ok, want)
	}
}

func TestIsLocal(t *testing.T) {
	for _, r := range idealRings() {
		for _, s := range []impl.Ring{r, turned(r)} {
			if got, want := impl.IsLocal(s), maximalIn(s) == 1; got != want {
				t.Errorf("IsLocal %s = %v", impl.FormatRing(s), got)
			}
		}
	}
	for text, want := range map[string]bool{
		"1": false, "2": true, "3": true, "4": true, "6": false, "8": true, "9": true, "12": false, "15": false, "16": true, "2x2": false, "2x2x2x2": false, "1x4": true, "4x1": true, "1x1": false,
		"2[1,1]": true, "2[0,0]": true, "2[0,1]": false, "2[0,0,0,0]": true, "2[1,1,0,0]": true, "2[1,0,0,0]": true, "2[1,0,0]": false, "4[0,0]": true, "4[1,1]": true, "4[0,1]": false, "2[1,1]x4": false, "3[1,0]": true, "3[2,0]": false,
	} {
		if got := impl.IsLocal(made(t, text)); got != want {
			t.Errorf("IsLocal %s = %v", text, got)
		}
	}
}

// TestLocalRings checks what is so of just the local rings: One is their only primitive idempotent, and no two elements without an inverse have a sum that has one.
func TestLocalRings(t *testing.T) {
	for _, r := range splitRings() {
		local := impl.IsLocal(r)
		if alone := slices.Equal(impl.PrimitivesOf(r), []int{r.One}); alone != local {
			t.Errorf("IsLocal %s = %v, but the primitive idempotents are %v", impl.FormatRing(r), local, impl.PrimitivesOf(r))
		}
		others := chosen(r, func(a int) bool { return len(inverses(r, a)) == 0 })
		if isClosed := len(others) > 0 && isClosed(r, others); isClosed != local {
			t.Errorf("IsLocal %s = %v, but the elements without an inverse are %v", impl.FormatRing(r), local, others)
		}
		if !local {
			continue
		}
		isCorner(t, r, r.One, r, numbersBelow(r.Size))
		rings := impl.SplitRing(r)
		if len(rings) != 1 || !impl.SameRing(rings[0], r) {
			t.Errorf("SplitRing %s = %v", impl.FormatRing(r), rings)
		}
		for a := range r.Size {
			isTheParts(t, r, a, []int{a})
			isJoined(t, r, []int{a}, a)
		}
	}
}

func TestPrimitivesOf(t *testing.T) {
	for _, r := range splitRings() {
		isList(t, "PrimitivesOf", r, impl.PrimitivesOf(r), primitivesIn(r))
	}
}

// TestPrimitivesTogether checks that the primitive idempotents have One as their sum and 0 as the product of any two, that they are as many as the maximal ideals, and that each idempotent is the sum of just some of them.
func TestPrimitivesTogether(t *testing.T) {
	for _, r := range splitRings() {
		primitives := impl.PrimitivesOf(r)
		if got, want := len(primitives), len(impl.ResidueSizes(r)); got != want {
			t.Errorf("%s has %d primitive idempotents and %d maximal ideals", impl.FormatRing(r), got, want)
		}
		for i, e := range primitives {
			for _, f := range primitives[i+1:] {
				if productIn(r, e, f) != 0 {
					t.Errorf("the product of %d and %d in %s is not 0", e, f, impl.FormatRing(r))
				}
			}
		}
		var sums []int
		for number := range 1 << len(primitives) {
			sum := 0
			for _, place := range withDigits(number) {
				sum = sumIn(r, sum, primitives[place])
			}
			sums = append(sums, sum)
		}
		if sums[len(sums)-1] != r.One {
			t.Errorf("the sum of %v in %s is not One", primitives, impl.FormatRing(r))
		}
		slices.Sort(sums)
		isList(t, "the sums of primitive idempotents", r, sums, impl.IdempotentsOf(r))
	}
}

func TestCornerRing(t *testing.T) {
	for _, r := range splitRings() {
		for a := range r.Size {
			if slices.Contains(idempotentsIn(r), a) {
				isCorner(t, r, a, cornerIn(r, a), multiplesIn(r, a))
			} else {
				isNoCorner(t, impl.FormatRing(r), r, a)
			}
		}
		isCorner(t, r, 0, remainders(1), []int{0})
		isCorner(t, r, r.One, r, numbersBelow(r.Size))
	}
}

// TestCornersAreRings checks the laws of each corner, that it is the quotient by the multiples of One minus its idempotent, and that it splits into some of the parts of the ring.
func TestCornersAreRings(t *testing.T) {
	for _, r := range idealRings() {
		for _, e := range impl.IdempotentsOf(r) {
			corner, list, _ := impl.CornerRing(r, e)
			if broken := faults(corner); len(broken) > 0 {
				t.Errorf("the corner of %d in %s is no ring: %v", e, impl.FormatRing(r), broken)
			}
			rest := chosen(r, func(f int) bool { return sumIn(r, e, f) == r.One })
			ideal, _ := impl.IdealOf(r, rest)
			q, names := quotientBy(t, r, ideal)
			if q.Size != corner.Size {
				t.Fatalf("the corner of %d in %s has %d elements, and the quotient %d", e, impl.FormatRing(r), corner.Size, q.Size)
			}
			f := make([]int, q.Size)
			for a, name := range names {
				f[name] = slices.Index(list, productIn(r, e, a))
			}
			if !impl.IsHom(q, corner, f) || !isOnto(corner, f) {
				t.Errorf("the corner of %d in %s is not the quotient by %v", e, impl.FormatRing(r), ideal)
			}
			var inside []int
			for i, a := range list {
				if slices.Contains(impl.PrimitivesOf(r), a) {
					inside = append(inside, i)
				}
			}
			isList(t, "PrimitivesOf the corner of "+show(e)+" in "+impl.FormatRing(r), corner, impl.PrimitivesOf(corner), inside)
		}
	}
}

func TestSplitRing(t *testing.T) {
	for _, r := range splitRings() {
		var want []impl.Ring
		for _, e := range primitivesIn(r) {
			want = append(want, cornerIn(r, e))
		}
		if got := impl.SplitRing(r); !slices.EqualFunc(got, want, impl.SameRing) {
			t.Errorf("SplitRing %s = %v, want %v", impl.FormatRing(r), got, want)
		}
	}
}

// TestSplitOfKnownRings has the primitive idempotents, the texts of the parts, and the parts of one element.
func TestSplitOfKnownRings(t *testing.T) {
	const two = "1 01/10 00/01"
	const four = "1 0123/1230/2301/3012 0000/0123/0202/0321"
	const field = "1 0123/1032/2301/3210 0000/0123/0231/0312"
	for _, c := range []struct {
		text       string
		primitives []int
		split      string
		a          int
		parts      []int
	}{
		{"1", nil, "", 0, nil},
		{"2", []int{1}, two, 1, []int{1}},
		{"4", []int{1}, four, 3, []int{3}},
		{"2[1,1]", []int{1}, field, 2, []int{2}},
		{"6", []int{3, 4}, two + "|2 012/120/201 000/021/012", 5, []int{1, 1}}, // 2 and 4 are 1 and 2 in the second part, which has 4 as One
		{"6", []int{3, 4}, two + "|2 012/120/201 000/021/012", 1, []int{1, 2}},
		{"10", []int{5, 6}, two + "|3 01234/12340/23401/34012/40123 00000/02413/04321/01234/03142", 7, []int{1, 1}},
		{"12", []int{4, 9}, "1 012/120/201 000/012/021|3 0123/1230/2301/3012 0000/0321/0202/0123", 7, []int{1, 1}},
		{"12", []int{4, 9}, "1 012/120/201 000/012/021|3 0123/1230/2301/3012 0000/0321/0202/0123", 1, []int{1, 3}},
		{"12", []int{4, 9}, "1 012/120/201 000/012/021|3 0123/1230/2301/3012 0000/0321/0202/0123", 10, []int{1, 2}},
		{"2x2", []int{1, 2}, two + "|" + two, 2, []int{0, 1}},
		{"2x4", []int{1, 4}, four + "|" + two, 6, []int{2, 1}}, // the second factor has the lesser idempotent, and is the first part
		{"4x2", []int{1, 2}, two + "|" + four, 6, []int{0, 3}},
		{"2[0,1]", []int{2, 3}, two + "|" + two, 1, []int{1, 1}},
		{"2x2[1,1]", []int{1, 4}, field + "|" + two, 7, []int{3, 1}},
		{"2x2x2x2", []int{1, 2, 4, 8}, two + "|" + two + "|" + two + "|" + two, 13, []int{1, 0, 1, 1}},
		{"3[2,0]", []int{5, 8}, "1 012/120/201 000/012/021|2 012/120/201 000/021/012", 3, []int{2, 2}},
	} {
		r := made(t, c.text)
		isList(t, "PrimitivesOf "+c.text, r, impl.PrimitivesOf(r), c.primitives)
		var texts []string
		for _, s := range impl.SplitRing(r) {
			texts = append(texts, impl.FormatRing(s))
		}
		if got := strings.Join(texts, "|"); got != c.split {
			t.Errorf("SplitRing %s = %s, want %s", c.text, got, c.split)
		}
		isTheParts(t, r, c.a, c.parts)
		isJoined(t, r, c.parts, c.a)
	}
	twelve := remainders(12)
	for a := range 12 {
		isTheParts(t, twelve, a, []int{a % 3, 3 * a % 4})
		isJoined(t, twelve, []int{a % 3, 3 * a % 4}, a)
	}
}

// TestSplitOfPairs checks that the parts of the pairs of elements are those of the second ring, whose idempotents have lesser numbers, and then those of the first one.
func TestSplitOfPairs(t *testing.T) {
	eachPair(someRings(), func(r, s impl.Ring) {
		both := pairRing(r, s)
		want := append(impl.SplitRing(s), impl.SplitRing(r)...)
		if got := impl.SplitRing(both); !slices.EqualFunc(got, want, impl.SameRing) {
			t.Errorf("SplitRing %s = %v, want %v", impl.FormatRing(both), got, want)
		}
		for a := range both.Size {
			first, _ := impl.PartsOf(r, a/s.Size)
			second, _ := impl.PartsOf(s, a%s.Size)
			isTheParts(t, both, a, append(second, first...))
		}
		if got, want := impl.HeightOf(both), max(impl.HeightOf(r), impl.HeightOf(s)); got != want {
			t.Errorf("HeightOf %s = %d, want %d", impl.FormatRing(both), got, want)
		}
	})
}

// TestSplitOfRenamed gives the elements other numbers, by which the parts come in another order and have other numbers too.
func TestSplitOfRenamed(t *testing.T) {
	for _, text := range []string{"4", "2x2", "2[1,1]", "5", "6", "2x3"} {
		r := made(t, text)
		for _, names := range orders(r.Size) {
			s, _ := impl.RenameRing(r, names)
			var primitives []int
			for _, e := range impl.PrimitivesOf(r) {
				primitives = append(primitives, names[e])
			}
			slices.Sort(primitives)
			isList(t, "PrimitivesOf", s, impl.PrimitivesOf(s), primitives)
			for a := range s.Size {
				isTheParts(t, s, a, partsIn(s, a))
				isJoined(t, s, partsIn(s, a), a)
			}
			if impl.IsLocal(s) != impl.IsLocal(r) || impl.HeightOf(s) != impl.HeightOf(r) {
				t.Errorf("IsLocal or HeightOf %s is not that of %s", impl.FormatRing(s), text)
			}
		}
	}
	r, _ := impl.RenameRing(remainders(6), []int{0, 5, 4, 2, 1, 3}) // 3 and 4 are 2 and 1
	isList(t, "PrimitivesOf", r, impl.PrimitivesOf(r), []int{1, 2})
	isCorner(t, r, 1, remainders(3), []int{0, 1, 4})
	isCorner(t, r, 2, remainders(2), []int{0, 2})
}

func TestPartsOf(t *testing.T) {
	for _, r := range splitRings() {
		for a := range r.Size {
			isTheParts(t, r, a, partsIn(r, a))
		}
	}
}

// TestRingIsProduct checks P7: the parts are local, as many as the primitive idempotents, and PartsOf has the ring and their product belong to each other one for one, with sums, products and One.
func TestRingIsProduct(t *testing.T) {
	for _, r := range splitRings() {
		product, local := remainders(1), impl.SplitRing(r)
		for _, s := range local {
			if !impl.IsLocal(s) {
				t.Errorf("SplitRing %s has %s, which is not local", impl.FormatRing(r), impl.FormatRing(s))
			}
			product = pairRing(product, s)
		}
		if got, want := len(local), len(impl.PrimitivesOf(r)); got != want || product.Size != r.Size {
			t.Fatalf("%s has %d parts with %d elements together, and %d primitive idempotents", impl.FormatRing(r), got, product.Size, want)
		}
		var f []int
		for a := range r.Size {
			parts, ok := impl.PartsOf(r, a)
			if !ok || len(parts) != len(local) {
				t.Fatalf("PartsOf %d in %s = %v, %v", a, impl.FormatRing(r), parts, ok)
			}
			number := 0
			for i, s := range local {
				number = number*s.Size + parts[i]
			}
			f = append(f, number)
		}
		if !respectsAll(r, product, f) || !isOnto(product, f) {
			t.Errorf("%s has the parts %v, by which it is not their product", impl.FormatRing(r), f)
		}
	}
}

// TestKindsOfParts checks that an element is a unit, nilpotent or idempotent just if all its parts are, and a zero divisor just if one is.
func TestKindsOfParts(t *testing.T) {
	for _, r := range idealRings() {
		local := impl.SplitRing(r)
		for a := range r.Size {
			parts, _ := impl.PartsOf(r, a)
			for _, kind := range "udni" {
				count := 0
				for i, s := range local {
					if strings.ContainsRune(impl.KindsOf(s, parts[i]), kind) {
						count++
					}
				}
				want := count == len(local)
				if kind == 'd' {
					want = count > 0
				}
				if got := strings.ContainsRune(impl.KindsOf(r, a), kind); got != want {
					t.Errorf("KindsOf %d in %s = %q, but its parts are %v", a, impl.FormatRing(r), impl.KindsOf(r, a), parts)
				}
			}
		}
		ideals := 1
		for _, s := range local {
			ideals *= len(impl.AllIdeals(s))
		}
		if got := len(impl.AllIdeals(r)); got != ideals {
			t.Errorf("%s has %d ideals, and its parts have %d", impl.FormatRing(r), got, ideals)
		}
	}
}

// eachParts visits all lists of elements of some rings, one of each.
func eachParts(rings []impl.Ring, visit func(parts []int)) {
	if len(rings) == 0 {
		visit(nil)
		return
	}
	last := len(rings) - 1
	eachParts(rings[:last], func(parts []int) {
		for a := range rings[last].Size {
			visit(append(slices.Clone(parts), a))
		}
	})
}

// TestJoinParts joins all lists of parts, of which each stands for one element.
func TestJoinParts(t *testing.T) {
	for _, r := range splitRings() {
		primitives := primitivesIn(r)
		var joined []int
		eachParts(impl.SplitRing(r), func(parts []int) {
			sum := 0
			for i, e := range primitives {
				sum = sumIn(r, sum, multiplesIn(r, e)[parts[i]])
			}
			isJoined(t, r, parts, sum)
			isTheParts(t, r, sum, parts)
			joined = append(joined, sum)
		})
		slices.Sort(joined)
		isList(t, "all that is joined", r, joined, numbersBelow(r.Size))
	}
}

// TestJoinOfNoParts has lists that are too short or too long, and numbers that are no element of their part.
func TestJoinOfNoParts(t *testing.T) {
	for _, r := range splitRings() {
		local := impl.SplitRing(r)
		for _, a := range []int{0, r.One, r.Size - 1} {
			parts, _ := impl.PartsOf(r, a)
			for i, s := range local {
				for _, number := range []int{-1, -s.Size, s.Size, s.Size + 1, impl.MaxSize, impl.MaxSize + 1, math.MaxInt, math.MinInt} {
					wrong := slices.Clone(parts)
					wrong[i] = number
					isJoined(t, r, wrong, -1)
				}
				isJoined(t, r, parts[:i], -1)
				isJoined(t, r, slices.Delete(slices.Clone(parts), i, i+1), -1)
			}
			for _, more := range []int{0, 1, a, -1, math.MaxInt} {
				isJoined(t, r, append(slices.Clone(parts), more), -1)
				isJoined(t, r, append([]int{more}, parts...), -1)
			}
		}
		isJoined(t, r, make([]int, len(local)+1), -1)
		isJoined(t, r, make([]int, 17), -1)
		isJoined(t, r, slices.Repeat([]int{0}, 100000), -1)
	}
	twelve := remainders(12) // with parts of three and of four elements
	for _, parts := range [][]int{nil, {}, {0}, {1}, {3, 0}, {0, 4}, {3, 3}, {4, 9}, {9, 4}, {-1, 0}, {0, -1}, {2, 3, 0}, {0, 0, 0}} {
		isJoined(t, twelve, parts, -1)
	}
	isJoined(t, twelve, []int{2, 3}, 5)
}

// TestHeightOf checks that products of as many nilpotents are 0, and that of fewer ones one is not.
func TestHeightOf(t *testing.T) {
	for _, r := range splitRings() {
		if got, want := impl.HeightOf(r), 1+mostFactors(r, r.One); got != want {
			t.Errorf("HeightOf %s = %d, want %d", impl.FormatRing(r), got, want)
		}
		power, height := impl.NilpotentsOf(r), 1
		for !slices.Equal(power, []int{0}) {
			power, _ = impl.ProductIdeal(r, power, impl.NilpotentsOf(r))
			height++
		}
		if got := impl.HeightOf(r); got != height {
			t.Errorf("HeightOf %s = %d, but the power %d of its nilpotents is the first one that is 0", impl.FormatRing(r), got, height)
		}
		greatest := 1
		for _, s := range impl.SplitRing(r) {
			greatest = max(greatest, impl.HeightOf(s))
		}
		if got := impl.HeightOf(r); got != greatest {
			t.Errorf("HeightOf %s = %d, and the greatest one of its parts is %d", impl.FormatRing(r), got, greatest)
		}
	}
}

func TestHeightOfKnownRings(t *testing.T) {
	for text, want := range map[string]int{
		"1": 1, "2": 1, "4": 2, "6": 1, "7": 1, "8": 3, "9": 2, "12": 2, "15": 1, "16": 4, "2x2x2x2": 1, "2x8": 3, "4x4": 2, "2[1,1]": 1, "2[1,1]x4": 2,
		"2[0,0]": 2, "2[0,0,0]": 3, "2[0,0,0,0]": 4, "2[1,0,0,0]": 4, "2[1,0,1,0]": 2, "4[0,0]": 3, "4[2,0]": 4, "4[1,1]": 2, "3[0,0]": 2, "3[1,0]": 1,
	} {
		if got := impl.HeightOf(made(t, text)); got != want {
			t.Errorf("HeightOf %s = %d, want %d", text, got, want)
		}
	}
	for _, c := range []struct {
		r    impl.Ring
		want int
	}{{flatRing(3), 2}, {flatRing(4), 2}, {mixedRing(0), 2}, {mixedRing(2), 3}} {
		if got := impl.HeightOf(c.r); got != c.want {
			t.Errorf("HeightOf %s = %d, want %d", impl.FormatRing(c.r), got, c.want)
		}
	}
}

func TestSplittingOfRingOfOne(t *testing.T) {
	one := remainders(1)
	if impl.IsLocal(one) || len(impl.PrimitivesOf(one)) != 0 || len(impl.SplitRing(one)) != 0 || impl.HeightOf(one) != 1 {
		t.Errorf("IsLocal = %v, PrimitivesOf = %v, SplitRing = %v, HeightOf = %d", impl.IsLocal(one), impl.PrimitivesOf(one), impl.SplitRing(one), impl.HeightOf(one))
	}
	isCorner(t, one, 0, one, []int{0})
	isTheParts(t, one, 0, nil)
	isJoined(t, one, nil, 0)
	isJoined(t, one, []int{}, 0)
	isJoined(t, one, []int{0}, -1)
	isJoined(t, one, []int{0, 0}, -1)
	isJoined(t, one, []int{-1}, -1)
}

func TestSplittingOfNoElements(t *testing.T) {
	for _, r := range splitRings() {
		for _, a := range []int{-1, -r.Size, r.Size, r.Size + 1, 2 * r.Size, r.Size * r.Size, 16, 17, math.MaxInt, math.MinInt} {
			isNoCorner(t, impl.FormatRing(r), r, a)
			got, ok := impl.PartsOf(r, a)
			isNoList(t, impl.FormatRing(r)+": PartsOf "+show(a), got, ok)
		}
	}
	for a, isIdempotent := range []bool{true, true, false, false, true, false, false, false, false, true, false, false} {
		if !isIdempotent {
			isNoCorner(t, "by 12", remainders(12), a)
		}
	}
	isNoCorner(t, "the field of four elements", fieldOfFour(), 2)
	isNoCorner(t, "the field of four elements", fieldOfFour(), 3)
}

func TestSplittingOfBadRings(t *testing.T) {
	for name, r := range badRings() {
		if impl.IsLocal(r) || impl.HeightOf(r) != -1 {
			t.Errorf("%s: IsLocal = %v, HeightOf = %d", name, impl.IsLocal(r), impl.HeightOf(r))
		}
		if primitives := impl.PrimitivesOf(r); len(primitives) != 0 {
			t.Errorf("%s: PrimitivesOf = %v", name, primitives)
		}
		if rings := impl.SplitRing(r); len(rings) != 0 {
			t.Errorf("%s: SplitRing = %v", name, rings)
		}
		for _, a := range []int{0, 1, 2, 3, 4, 15, 16, 17, -1, -4, r.One, r.Size, r.Size - 1, math.MaxInt, math.MinInt} {
			isNoCorner(t, name, r, a)
			got, ok := impl.PartsOf(r, a)
			isNoList(t, name+": PartsOf "+show(a), got, ok)
		}
		for _, parts := range [][]int{nil, {}, {0}, {1}, {0, 0}, {1, 1}, {-1}, {16}, make([]int, 17), {math.MaxInt}, {math.MinInt}} {
			if got := impl.JoinParts(r, parts); got != -1 {
				t.Errorf("%s: JoinParts %v = %d", name, parts, got)
			}
		}
	}
}

// TestSplittingAgain calls the functions for several rings in turn, many times and at once, since nothing is kept from one call to another one.
func TestSplittingAgain(t *testing.T) {
	rings := []impl.Ring{remainders(12), remainders(1), pairs(2, 4), remainders(6), turned(remainders(12)), fieldOfFour()}
	var wants [][][]int
	for _, r := range rings {
		var parts [][]int
		for a := range r.Size {
			parts = append(parts, partsIn(r, a))
		}
		wants = append(wants, parts)
	}
	var calling sync.WaitGroup
	for range 8 {
		calling.Go(func() {
			for range 50 {
				for i, r := range rings {
					for a, parts := range wants[i] {
						isTheParts(t, r, a, parts)
						isJoined(t, r, parts, a)
					}
					impl.JoinParts(impl.Ring{}, nil)
					impl.SplitRing(remainders(17))
				}
			}
		})
	}
	calling.Wait()
}

// TestSplittingMemory checks that arguments, and what lies behind their ends, stay as they are, and that results have memory of their own.
func TestSplittingMemory(t *testing.T) {
	plain := remainders(12)
	sums, sumsKept := guarded(plain.Sums)
	products, productsKept := guarded(plain.Products)
	parts, partsKept := guarded([]int{1, 1})
	kept := func() bool { return sumsKept() && productsKept() && partsKept() }
	r := impl.Ring{Size: 12, One: 1, Sums: sums, Products: products}
	for _, e := range []int{0, 1, 4, 9} {
		first, list, _ := impl.CornerRing(r, e)
		again, others, ok := impl.CornerRing(r, e)
		want, wantList := copied(again), slices.Clone(others)
		spoil(first)
		overwrite(list)
		if !ok || !impl.SameRing(again, want) || !slices.Equal(others, wantList) || !kept() {
			t.Errorf("CornerRing %d: memory is shared or changed", e)
		}
		overwrite(again.Sums)
		if !slices.Equal(again.Products, want.Products) || !slices.Equal(others, wantList) {
			t.Errorf("CornerRing %d: the tables and the elements share memory", e)
		}
		overwrite(again.Products)
		if !slices.Equal(others, wantList) || !kept() {
			t.Errorf("CornerRing %d: the tables and the elements share memory", e)
		}
	}
	for name, call := range map[string]func() []int{
		"PrimitivesOf": func() []int { return impl.PrimitivesOf(r) },
		"PartsOf":      func() []int { list, _ := impl.PartsOf(r, 7); return list },
	} {
		first, again := call(), call()
		want := slices.Clone(again)
		overwrite(first)
		if len(again) == 0 || !slices.Equal(again, want) || !kept() {
			t.Errorf("%s: memory is shared or changed", name)
		}
	}
	four := pairs(2, 2) // whose parts are the same ring
	first, again := impl.SplitRing(four), impl.SplitRing(four)
	spoil(first[0])
	if !impl.SameRing(first[1], remainders(2)) {
		t.Error("SplitRing: the parts share their memory")
	}
	for i := range first[:cap(first)] {
		first[:cap(first)][i] = impl.Ring{}
	}
	if len(again) != 2 || !impl.SameRing(again[0], remainders(2)) || !impl.SameRing(again[1], remainders(2)) {
		t.Errorf("SplitRing = %v: memory is shared", again)
	}
	local := remainders(4)
	spoil(impl.SplitRing(local)[0])
	if !impl.SameRing(local, remainders(4)) {
		t.Error("SplitRing: the only part shares its memory with the ring")
	}
	if impl.JoinParts(r, parts) != 7 || impl.IsLocal(r) || impl.HeightOf(r) != 2 || !kept() {
		t.Error("an argument has changed")
	}
}
