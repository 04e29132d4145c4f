package tests

import (
	"math"
	"slices"
	"strings"
	"testing"

	"loop.example/finiterings/impl"
)

// manyRings returns rings of all sizes: integers, products and polynomials, some of which have other numbers.
func manyRings() []impl.Ring {
	rings := someRings()
	eachPair(someRings(), func(r, s impl.Ring) { rings = append(rings, pairRing(r, s)) })
	eachPolynomial([]impl.Ring{remainders(2), remainders(3), remainders(4), fieldOfFour(), pairs(2, 2), swapped(remainders(3), 1, 2)}, func(r impl.Ring, f []int) {
		rings = append(rings, polynomialRing(r, f))
	})
	return append(rings, swapped(pairs(3, 4), 4, 5), swapped(polynomialRing(remainders(2), []int{1, 1, 0}), 1, 7))
}

// productIn returns the product of two elements by the table of a ring.
func productIn(r impl.Ring, a, b int) int {
	return r.Products[a*r.Size+b]
}

// chosen returns the elements of a ring for which something is so.
func chosen(r impl.Ring, isSo func(a int) bool) []int {
	var list []int
	for a := range r.Size {
		if isSo(a) {
			list = append(list, a)
		}
	}
	return list
}

// inverses returns all elements whose product with one is One.
func inverses(r impl.Ring, a int) []int {
	return chosen(r, func(b int) bool { return productIn(r, a, b) == r.One })
}

// divides reports whether the product of an element and another one than 0 is 0.
func divides(r impl.Ring, a int) bool {
	return slices.ContainsFunc(chosen(r, func(b int) bool { return b != 0 }), func(b int) bool { return productIn(r, a, b) == 0 })
}

// vanishes reports whether a power of an element is 0, with an exponent from 1 on.
func vanishes(r impl.Ring, a int) bool {
	power := a
	for range 100 {
		if power == 0 {
			return true
		}
		power = productIn(r, power, a)
	}
	return false
}

// isList checks that a function has returned some numbers.
func isList(t *testing.T, what string, r impl.Ring, got, want []int) {
	t.Helper()
	if !slices.Equal(got, want) {
		t.Errorf("%s in %s = %v, want %v", what, impl.FormatRing(r), got, want)
	}
}

func TestElementsOfKinds(t *testing.T) {
	for _, r := range manyRings() {
		isList(t, "UnitsOf", r, impl.UnitsOf(r), chosen(r, func(a int) bool { return len(inverses(r, a)) > 0 }))
		isList(t, "ZeroDivisorsOf", r, impl.ZeroDivisorsOf(r), chosen(r, func(a int) bool { return divides(r, a) }))
		isList(t, "NilpotentsOf", r, impl.NilpotentsOf(r), chosen(r, func(a int) bool { return vanishes(r, a) }))
		isList(t, "IdempotentsOf", r, impl.IdempotentsOf(r), chosen(r, func(a int) bool { return productIn(r, a, a) == a }))
	}
}

// TestUnitOrZeroDivisor checks that the units and the zero divisors are together all elements, each once.
func TestUnitOrZeroDivisor(t *testing.T) {
	for _, r := range manyRings() {
		both := append(impl.UnitsOf(r), impl.ZeroDivisorsOf(r)...)
		slices.Sort(both)
		isList(t, "units and zero divisors", r, both, numbersBelow(r.Size))
		for a := range r.Size {
			kinds := impl.KindsOf(r, a)
			if strings.Contains(kinds, "u") == strings.Contains(kinds, "d") {
				t.Errorf("KindsOf %d in %s = %q", a, impl.FormatRing(r), kinds)
			}
			if strings.Contains(kinds, "u") != (impl.InverseOf(r, a) >= 0) {
				t.Errorf("KindsOf %d in %s = %q, but InverseOf = %d", a, impl.FormatRing(r), kinds, impl.InverseOf(r, a))
			}
		}
	}
}

func TestElementsOfKnownRings(t *testing.T) {
	for _, c := range []struct {
		text                                     string
		units, divisors, nilpotents, idempotents []int
	}{
		{"2", []int{1}, []int{0}, []int{0}, []int{0, 1}},
		{"7", []int{1, 2, 3, 4, 5, 6}, []int{0}, []int{0}, []int{0, 1}},
		{"8", []int{1, 3, 5, 7}, []int{0, 2, 4, 6}, []int{0, 2, 4, 6}, []int{0, 1}},
		{"12", []int{1, 5, 7, 11}, []int{0, 2, 3, 4, 6, 8, 9, 10}, []int{0, 6}, []int{0, 1, 4, 9}},
		{"16", []int{1, 3, 5, 7, 9, 11, 13, 15}, []int{0, 2, 4, 6, 8, 10, 12, 14}, []int{0, 2, 4, 6, 8, 10, 12, 14}, []int{0, 1}},
		{"2x2", []int{3}, []int{0, 1, 2}, []int{0}, []int{0, 1, 2, 3}},
		{"2x4", []int{5, 7}, []int{0, 1, 2, 3, 4, 6}, []int{0, 2}, []int{0, 1, 4, 5}},
		{"2x2x2x2", []int{15}, numbersBelow(15), []int{0}, numbersBelow(16)},
		{"2[0,0]", []int{1, 3}, []int{0, 2}, []int{0, 2}, []int{0, 1}},
		{"2[1,1]", []int{1, 2, 3}, []int{0}, []int{0}, []int{0, 1}},
		{"2[0,1]", []int{1}, []int{0, 2, 3}, []int{0}, []int{0, 1, 2, 3}},
		{"2[0,0,0,0]", []int{1, 3, 5, 7, 9, 11, 13, 15}, []int{0, 2, 4, 6, 8, 10, 12, 14}, []int{0, 2, 4, 6, 8, 10, 12, 14}, []int{0, 1}},
	} {
		r := made(t, c.text)
		isList(t, "UnitsOf "+c.text, r, impl.UnitsOf(r), c.units)
		isList(t, "ZeroDivisorsOf "+c.text, r, impl.ZeroDivisorsOf(r), c.divisors)
		isList(t, "NilpotentsOf "+c.text, r, impl.NilpotentsOf(r), c.nilpotents)
		isList(t, "IdempotentsOf "+c.text, r, impl.IdempotentsOf(r), c.idempotents)
	}
}

func TestInverseOf(t *testing.T) {
	for _, r := range manyRings() {
		for a := range r.Size {
			want := -1
			if list := inverses(r, a); len(list) > 0 {
				want = list[0]
			}
			if got := impl.InverseOf(r, a); got != want {
				t.Errorf("InverseOf %d in %s = %d, want %d", a, impl.FormatRing(r), got, want)
			}
		}
	}
	nine := remainders(9)
	var got []int
	for a := range 9 {
		got = append(got, impl.InverseOf(nine, a))
	}
	isList(t, "InverseOf all", nine, got, []int{-1, 1, 5, -1, 7, 2, -1, 4, 8})
}

func TestOrders(t *testing.T) {
	for _, r := range manyRings() {
		for a := range r.Size {
			sumOrder, sum := 1, a
			for sum != 0 {
				sumOrder, sum = sumOrder+1, r.Sums[sum*r.Size+a]
			}
			if got := impl.SumOrderOf(r, a); got != sumOrder {
				t.Errorf("SumOrderOf %d in %s = %d, want %d", a, impl.FormatRing(r), got, sumOrder)
			}
			unitOrder, power := 1, a
			for unitOrder <= r.Size && power != r.One {
				unitOrder, power = unitOrder+1, productIn(r, power, a)
			}
			if unitOrder > r.Size {
				unitOrder = -1
			}
			if got := impl.UnitOrderOf(r, a); got != unitOrder {
				t.Errorf("UnitOrderOf %d in %s = %d, want %d", a, impl.FormatRing(r), got, unitOrder)
			}
			if (impl.InverseOf(r, a) == -1) != (unitOrder == -1) {
				t.Errorf("InverseOf %d in %s = %d, but its order is %d", a, impl.FormatRing(r), impl.InverseOf(r, a), unitOrder)
			}
		}
	}
}

func TestOrdersOfKnownRings(t *testing.T) {
	for _, c := range []struct {
		text         string
		sums, powers []int
	}{
		{"5", []int{1, 5, 5, 5, 5}, []int{-1, 1, 4, 4, 2}},
		{"6", []int{1, 6, 3, 2, 3, 6}, []int{-1, 1, -1, -1, -1, 2}},
		{"2x3", []int{1, 3, 3, 2, 6, 6}, []int{-1, -1, -1, -1, 1, 2}},
		{"2[1,1]", []int{1, 2, 2, 2}, []int{-1, 1, 3, 3}},
	} {
		r := made(t, c.text)
		var sums, powers []int
		for a := range r.Size {
			sums = append(sums, impl.SumOrderOf(r, a))
			powers = append(powers, impl.UnitOrderOf(r, a))
		}
		isList(t, "SumOrderOf "+c.text, r, sums, c.sums)
		isList(t, "UnitOrderOf "+c.text, r, powers, c.powers)
	}
	if got := impl.UnitOrderOf(made(t, "2[1,1,0,0]"), 2); got != 15 {
		t.Errorf("UnitOrderOf in the field of sixteen elements = %d", got)
	}
	if got := impl.SumOrderOf(remainders(16), 15); got != 16 {
		t.Errorf("SumOrderOf in the integers by 16 = %d", got)
	}
}

func TestAssociatesOf(t *testing.T) {
	for _, r := range manyRings() {
		for a := range r.Size {
			want := chosen(r, func(b int) bool {
				return slices.ContainsFunc(impl.UnitsOf(r), func(u int) bool { return productIn(r, a, u) == b })
			})
			isList(t, "AssociatesOf "+show(a), r, impl.AssociatesOf(r, a), want)
		}
		isList(t, "AssociatesOf One", r, impl.AssociatesOf(r, r.One), impl.UnitsOf(r))
		isList(t, "AssociatesOf 0", r, impl.AssociatesOf(r, 0), []int{0})
	}
	twelve := remainders(12)
	for _, list := range [][]int{{0}, {1, 5, 7, 11}, {2, 10}, {3, 9}, {4, 8}, {6}} {
		for _, a := range list {
			isList(t, "AssociatesOf "+show(a), twelve, impl.AssociatesOf(twelve, a), list)
		}
	}
}

func TestIsField(t *testing.T) {
	for _, r := range manyRings() {
		want := r.Size > 1
		for a := 1; a < r.Size; a++ {
			want = want && len(inverses(r, a)) > 0
		}
		if got := impl.IsField(r); got != want {
			t.Errorf("IsField %s = %v", impl.FormatRing(r), got)
		}
	}
}

func TestIsFieldOfKnownRings(t *testing.T) {
	for _, text := range []string{"2", "3", "5", "7", "11", "13", "1x5", "7x1", "13[12]", "2[1,1]", "2[1,1,0]", "2[1,0,1]", "2[1,1,0,0]", "2[1,0,0,1]", "2[1,1,1,1]", "3[1,0]", "3[2,1]", "3[2,2]"} {
		if !impl.IsField(made(t, text)) {
			t.Errorf("IsField %s is false", text)
		}
	}
	for _, text := range []string{"1", "4", "6", "8", "9", "10", "12", "14", "15", "16", "2x2", "2x3", "3x3", "1x1", "1[0]", "2[0,0]", "2[1,0]", "2[0,1]", "2[1,0,1,0]", "3[0,0]", "3[2,0]", "4[1,1]", "2[1,1]x2"} {
		if impl.IsField(made(t, text)) {
			t.Errorf("IsField %s is true", text)
		}
	}
	for _, r := range []impl.Ring{swapped(fieldOfFour(), 1, 3), swapped(remainders(3), 1, 2), swapped(remainders(13), 1, 12)} {
		if !impl.IsField(r) {
			t.Errorf("IsField %s is false", impl.FormatRing(r))
		}
	}
}

func TestKindsOf(t *testing.T) {
	for _, r := range manyRings() {
		for a := range r.Size {
			want := ""
			if len(inverses(r, a)) > 0 {
				want += "u"
			}
			if divides(r, a) {
				want += "d"
			}
			if vanishes(r, a) {
				want += "n"
			}
			if productIn(r, a, a) == a {
				want += "i"
			}
			if got := impl.KindsOf(r, a); got != want {
				t.Errorf("KindsOf %d in %s = %q, want %q", a, impl.FormatRing(r), got, want)
			}
		}
	}
}

// TestSeveralKinds has elements of one, two and three kinds.
func TestSeveralKinds(t *testing.T) {
	for text, want := range map[string]string{
		"1":      "uni",
		"1x1[0]": "uni",
		"2":      "dni ui",
		"3":      "dni ui u",
		"4":      "dni ui dn u",
		"6":      "dni ui d di di u",
		"9":      "dni ui u dn u u dn u u",
		"12":     "dni ui d d di u dn u d di d u",
		"2x2":    "dni di di ui",
		"2[0,0]": "dni ui dn u",
		"2[1,1]": "dni ui u u",
		"2x4":    "dni di dn d di ui d u",
	} {
		r := made(t, text)
		var kinds []string
		for a := range r.Size {
			kinds = append(kinds, impl.KindsOf(r, a))
		}
		if got := strings.Join(kinds, " "); got != want {
			t.Errorf("KindsOf all of %s = %q, want %q", text, got, want)
		}
	}
}

func TestElementsOfRingOfOne(t *testing.T) {
	one := remainders(1)
	isList(t, "UnitsOf", one, impl.UnitsOf(one), []int{0})
	isList(t, "ZeroDivisorsOf", one, impl.ZeroDivisorsOf(one), nil)
	isList(t, "NilpotentsOf", one, impl.NilpotentsOf(one), []int{0})
	isList(t, "IdempotentsOf", one, impl.IdempotentsOf(one), []int{0})
	isList(t, "AssociatesOf", one, impl.AssociatesOf(one, 0), []int{0})
	if impl.InverseOf(one, 0) != 0 || impl.SumOrderOf(one, 0) != 1 || impl.UnitOrderOf(one, 0) != 1 || impl.IsField(one) || impl.KindsOf(one, 0) != "uni" {
		t.Errorf("its element has the inverse %d, orders %d and %d, kinds %q; IsField = %v", impl.InverseOf(one, 0), impl.SumOrderOf(one, 0), impl.UnitOrderOf(one, 0), impl.KindsOf(one, 0), impl.IsField(one))
	}
}

// isNoElement checks what the functions of an element return if there is none.
func isNoElement(t *testing.T, what string, r impl.Ring, a int) {
	t.Helper()
	if inverse, sum, power := impl.InverseOf(r, a), impl.SumOrderOf(r, a), impl.UnitOrderOf(r, a); inverse != -1 || sum != -1 || power != -1 {
		t.Errorf("%s, %d: inverse %d, orders %d and %d", what, a, inverse, sum, power)
	}
	if list, kinds := impl.AssociatesOf(r, a), impl.KindsOf(r, a); len(list) != 0 || kinds != "-" {
		t.Errorf("%s, %d: AssociatesOf = %v, KindsOf = %q", what, a, list, kinds)
	}
}

func TestKindsOfNoElements(t *testing.T) {
	for _, r := range manyRings() {
		for _, a := range []int{-1, -r.Size, r.Size, r.Size + 1, math.MaxInt, math.MinInt} {
			isNoElement(t, impl.FormatRing(r), r, a)
		}
	}
}

func TestElementsOfBadRings(t *testing.T) {
	for name, r := range badRings() {
		for i, list := range [][]int{impl.UnitsOf(r), impl.ZeroDivisorsOf(r), impl.NilpotentsOf(r), impl.IdempotentsOf(r)} {
			if len(list) != 0 {
				t.Errorf("%s: list %d is %v", name, i, list)
			}
		}
		for _, a := range []int{0, 1, 3, -1, 16, math.MaxInt, math.MinInt} {
			isNoElement(t, name, r, a)
		}
		if impl.IsField(r) {
			t.Errorf("%s: IsField is true", name)
		}
	}
	// Only one sum is faulty, so by the products all elements but 0 would be units.
	field := remainders(5)
	field.Sums[24] = 0
	if impl.IsField(field) || len(impl.UnitsOf(field)) != 0 {
		t.Errorf("IsField %v = %v", field, impl.IsField(field))
	}
	isNoElement(t, "a faulty sum", field, 4)
}

// TestElementsMemory checks that arguments, and what lies behind their ends, stay as they are, and that results have memory of their own.
func TestElementsMemory(t *testing.T) {
	plain := remainders(12)
	sums, sumsKept := guarded(plain.Sums)
	products, productsKept := guarded(plain.Products)
	r := impl.Ring{Size: 12, One: 1, Sums: sums, Products: products}
	for i, list := range []func() []int{
		func() []int { return impl.UnitsOf(r) },
		func() []int { return impl.ZeroDivisorsOf(r) },
		func() []int { return impl.NilpotentsOf(r) },
		func() []int { return impl.IdempotentsOf(r) },
		func() []int { return impl.AssociatesOf(r, 1) },
		func() []int { return impl.AssociatesOf(r, 0) },
	} {
		first, again := list(), list()
		want := slices.Clone(again)
		for at := range first[:cap(first)] {
			first[:cap(first)][at] = -9
		}
		if !slices.Equal(again, want) || !slices.Equal(list(), want) || !sumsKept() || !productsKept() {
			t.Errorf("list %d: memory is shared or changed", i)
		}
	}
	for a := range r.Size {
		impl.InverseOf(r, a)
		impl.SumOrderOf(r, a)
		impl.UnitOrderOf(r, a)
		impl.KindsOf(r, a)
	}
	impl.IsField(r)
	if !sumsKept() || !productsKept() {
		t.Error("an argument has changed")
	}
}
