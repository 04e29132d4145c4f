package tests

import (
	"math"
	"slices"
	"sync"
	"testing"

	"loop.example/finiterings/impl"
)

// mapRings returns rings of all sizes, with none, one or several homomorphisms between them.
func mapRings(t *testing.T) []impl.Ring {
	t.Helper()
	var rings []impl.Ring
	for n := 1; n <= impl.MaxSize; n++ {
		rings = append(rings, remainders(n))
	}
	for _, text := range []string{
		"2x2", "2x3", "3x2", "2x4", "4x2", "3x3", "2x2x2", "2x2x3", "2x2x4", "4x4", "2x8", "2x2x2x2", "2[1,1]x2", "2[1,1]x3", "2[1,1]x2[1,1]", "2[0,0]x2", "2[0,0]x4",
		"2[1,1]", "2[0,0]", "2[0,1]", "2[1,0]", "2[0,0,0]", "2[1,1,0]", "2[1,0,1]", "2[0,0,0,0]", "2[1,1,0,0]", "2[1,0,0,1]", "3[0,0]", "3[1,0]", "3[2,0]", "3[2,1]", "4[0,0]", "4[1,1]", "4[2,0]",
	} {
		rings = append(rings, made(t, text))
	}
	rings = append(rings, flatRing(3), flatRing(4), mixedRing(0), mixedRing(2), polynomialRing(made(t, "2[0,0]"), []int{0, 0}), polynomialRing(fieldOfFour(), []int{0, 0}))
	return append(rings, swapped(remainders(4), 1, 3), swapped(remainders(16), 1, 15), swapped(fieldOfFour(), 1, 3), swapped(pairs(2, 4), 1, 5), swapped(made(t, "2[1,1,0]"), 1, 7), swapped(flatRing(4), 3, 8))
}

// fitsSoFar reports whether the first images of a map are those of a homomorphism as far as they tell of One, sums and products.
func fitsSoFar(r, s impl.Ring, f []int) bool {
	if r.One < len(f) && f[r.One] != s.One {
		return false
	}
	for a := range f {
		for b := range f {
			if c := sumIn(r, a, b); c < len(f) && f[c] != sumIn(s, f[a], f[b]) {
				return false
			}
			if c := productIn(r, a, b); c < len(f) && f[c] != productIn(s, f[a], f[b]) {
				return false
			}
		}
	}
	return true
}

// respectsAll reports whether a list is a homomorphism between two rings.
func respectsAll(r, s impl.Ring, f []int) bool {
	outside := func(a int) bool { return a < 0 || a >= s.Size }
	return len(f) == r.Size && !slices.ContainsFunc(f, outside) && fitsSoFar(r, s, f)
}

// triedHoms returns all homomorphisms from a ring to another one in their order, by trying each image of each element in turn.
func triedHoms(r, s impl.Ring) [][]int {
	maps := [][]int{nil}
	for range r.Size {
		var longer [][]int
		for _, f := range maps {
			for b := range s.Size {
				if g := append(slices.Clone(f), b); fitsSoFar(r, s, g) {
					longer = append(longer, g)
				}
			}
		}
		maps = longer
	}
	return maps
}

// eachHom visits all homomorphisms between some rings, even if they are too many to be told.
func eachHom(t *testing.T, visit func(r, s impl.Ring, f []int)) {
	t.Helper()
	rings := mapRings(t)
	for _, r := range rings {
		for _, s := range rings {
			maps, ok := impl.AllHoms(r, s)
			if !ok {
				maps = triedHoms(r, s)
			}
			for _, f := range maps {
				visit(r, s, f)
			}
		}
	}
}

// isMap checks that a function has returned a map between two rings and true.
func isMap(t *testing.T, what string, r, s impl.Ring, got []int, ok bool, want []int) {
	t.Helper()
	if !ok || !slices.Equal(got, want) {
		t.Errorf("%s from %s to %s = %v, %v, want %v", what, impl.FormatRing(r), impl.FormatRing(s), got, ok, want)
	}
}

// areMaps checks what AllHoms returns if some maps are all homomorphisms.
func areMaps(t *testing.T, r, s impl.Ring, want [][]int) {
	t.Helper()
	got, ok := impl.AllHoms(r, s)
	if len(want) > impl.MaxMaps {
		if len(got) != 0 || ok {
			t.Errorf("AllHoms from %s to %s = %d maps, %v, but there are %d", impl.FormatRing(r), impl.FormatRing(s), len(got), ok, len(want))
		}
		return
	}
	if !ok || !slices.EqualFunc(got, want, slices.Equal) {
		t.Errorf("AllHoms from %s to %s = %v, %v, want %v", impl.FormatRing(r), impl.FormatRing(s), got, ok, want)
	}
}

// isOnto reports whether a map has each element of a ring once.
func isOnto(s impl.Ring, f []int) bool {
	sorted := slices.Clone(f)
	slices.Sort(sorted)
	return slices.Equal(sorted, numbersBelow(s.Size))
}

// isFirst checks what IsomorphismOf returns if some maps are all homomorphisms, in order.
func isFirst(t *testing.T, r, s impl.Ring, maps [][]int) {
	t.Helper()
	got, ok := impl.IsomorphismOf(r, s)
	at := slices.IndexFunc(maps, func(f []int) bool { return isOnto(s, f) })
	if at >= 0 {
		isMap(t, "IsomorphismOf", r, s, got, ok, maps[at])
		return
	}
	isNoList(t, "IsomorphismOf from "+impl.FormatRing(r)+" to "+impl.FormatRing(s), got, ok)
}

// TestIsHomOfLists tries all lists of elements between small rings.
func TestIsHomOfLists(t *testing.T) {
	rings := mapRings(t)
	for _, r := range rings {
		for _, s := range rings {
			if math.Pow(float64(s.Size), float64(r.Size)) > 1000 {
				continue
			}
			for code := range powerOf(s.Size, r.Size) {
				f := numbersOf(code, s.Size, r.Size)
				if got := impl.IsHom(r, s, f); got != respectsAll(r, s, f) {
					t.Errorf("IsHom from %s to %s of %v = %v", impl.FormatRing(r), impl.FormatRing(s), f, got)
				}
			}
		}
	}
}

// TestIsHomOfOneChange makes maps shorter and longer, and gives one element another image, or none that is an element, between rings that are not both large.
func TestIsHomOfOneChange(t *testing.T) {
	eachHom(t, func(r, s impl.Ring, f []int) {
		if !impl.IsHom(r, s, f) {
			t.Errorf("IsHom from %s to %s of %v is false", impl.FormatRing(r), impl.FormatRing(s), f)
		}
		for _, g := range [][]int{nil, f[:len(f)-1], f[1:], append(slices.Clone(f), 0), append(slices.Clone(f), f...)} {
			if impl.IsHom(r, s, g) {
				t.Errorf("IsHom from %s to %s of %v is true", impl.FormatRing(r), impl.FormatRing(s), g)
			}
		}
		if r.Size+s.Size > 20 {
			return
		}
		for a := range f {
			for _, b := range append(numbersBelow(s.Size), -1, s.Size, math.MinInt, math.MaxInt) {
				g := slices.Clone(f)
				g[a] = b
				if got := impl.IsHom(r, s, g); got != respectsAll(r, s, g) {
					t.Errorf("IsHom from %s to %s of %v = %v", impl.FormatRing(r), impl.FormatRing(s), g, got)
				}
			}
		}
	})
}

// faultsOf returns the names of what a list of elements of a ring, one for each of another one, does not fit.
func faultsOf(r, s impl.Ring, f []int) []string {
	var names []string
	fits := func(table func(r impl.Ring, a, b int) int) bool {
		for a := range f {
			for b := range f {
				if f[table(r, a, b)] != table(s, f[a], f[b]) {
					return false
				}
			}
		}
		return true
	}
	if f[r.One] != s.One {
		names = append(names, "One")
	}
	if !fits(sumIn) {
		names = append(names, "sums")
	}
	if !fits(productIn) {
		names = append(names, "products")
	}
	return names
}

// TestIsHomOfOneFault has maps that do not fit just one of One, sums and products.
func TestIsHomOfOneFault(t *testing.T) {
	for _, c := range []struct {
		fault string
		r, s  string
		f     []int
	}{
		{"One", "2", "2", []int{0, 0}},
		{"One", "3", "6", []int{0, 4, 2}},
		{"One", "2", "2x2", []int{0, 1}},
		{"One", "2x2", "2x2", []int{0, 0, 2, 2}},
		{"One", "1", "12", []int{0}},
		{"sums", "3", "2", []int{0, 1, 1}},
		{"sums", "5", "5", []int{0, 1, 4, 4, 1}},
		{"sums", "2[1,1]", "2", []int{0, 1, 1, 1}},
		{"sums", "2[1,1]", "2[1,1]", []int{0, 1, 1, 1}},
		{"products", "2[1,1]", "2[0,0]", []int{0, 1, 2, 3}},
		{"products", "2[1,1]", "2x2", []int{0, 3, 1, 2}},
		{"products", "2x2", "2[0,0]", []int{0, 2, 3, 1}},
	} {
		r, s := made(t, c.r), made(t, c.s)
		if faults := faultsOf(r, s, c.f); !slices.Equal(faults, []string{c.fault}) {
			t.Fatalf("%v from %s to %s does not fit %v", c.f, c.r, c.s, faults)
		}
		if impl.IsHom(r, s, c.f) {
			t.Errorf("IsHom from %s to %s of %v is true, but it does not fit %s", c.r, c.s, c.f, c.fault)
		}
	}
}

func TestAllHoms(t *testing.T) {
	rings := mapRings(t)
	for _, r := range rings {
		for _, s := range rings {
			maps := triedHoms(r, s)
			areMaps(t, r, s, maps)
			isFirst(t, r, s, maps)
		}
	}
}

// TestHomsOfIntegers has one homomorphism from the integers by m to those by a divisor of m, and none to those by other numbers.
func TestHomsOfIntegers(t *testing.T) {
	for m := 1; m <= impl.MaxSize; m++ {
		for n := 1; n <= impl.MaxSize; n++ {
			var want [][]int
			if m%n == 0 {
				f := make([]int, m)
				for a := range f {
					f[a] = a % n
				}
				want = append(want, f)
			}
			areMaps(t, remainders(m), remainders(n), want)
		}
	}
}

// TestHomsOfPolynomials has one homomorphism for each zero of the monic polynomial in the second ring: it puts this in place of the unknown.
func TestHomsOfPolynomials(t *testing.T) {
	bases := []impl.Ring{remainders(2), remainders(3), remainders(4), remainders(5), remainders(16)}
	eachPolynomial(bases, func(r impl.Ring, f []int) {
		tower := polynomialRing(r, f)
		for _, s := range mapRings(t) {
			valueAt := func(coefficients []int, x int) int {
				value := 0
				for i := range coefficients {
					value = sumIn(s, productIn(s, value, x), impl.Times(s, coefficients[len(coefficients)-1-i], s.One))
				}
				return value
			}
			var want [][]int
			for x := range s.Size {
				if r.Size%impl.CharacteristicOf(s) != 0 || valueAt(append(slices.Clone(f), 1), x) != 0 {
					continue
				}
				var g []int
				for a := range tower.Size {
					g = append(g, valueAt(numbersOf(a, r.Size, len(f)), x))
				}
				want = append(want, g)
			}
			slices.SortFunc(want, slices.Compare)
			areMaps(t, tower, s, want)
		}
	})
}

// TestHomsToPairs has one homomorphism for each two to the first and to the second parts.
func TestHomsToPairs(t *testing.T) {
	parts := []impl.Ring{remainders(1), remainders(2), remainders(3), remainders(4), fieldOfFour(), pairs(2, 2), made(t, "2[0,0]"), made(t, "2[1,1,0]"), remainders(8)}
	eachPair(parts, func(s, u impl.Ring) {
		both := pairRing(s, u)
		for _, r := range mapRings(t) {
			var want [][]int
			for _, f := range triedHoms(r, s) {
				for _, g := range triedHoms(r, u) {
					var h []int
					for a := range f {
						h = append(h, f[a]*u.Size+g[a])
					}
					want = append(want, h)
				}
			}
			slices.SortFunc(want, slices.Compare)
			areMaps(t, r, both, want)
		}
	})
}

func TestHomsOfKnownRings(t *testing.T) {
	for _, c := range []struct {
		r, s string
		want [][]int
	}{
		{"4", "2", [][]int{{0, 1, 0, 1}}},
		{"2", "4", nil},
		{"2", "2[1,1]", [][]int{{0, 1}}},
		{"2[1,1]", "2", nil},
		{"2[1,1]", "2[1,1]", [][]int{{0, 1, 2, 3}, {0, 1, 3, 2}}},
		{"2x2", "2", [][]int{{0, 0, 1, 1}, {0, 1, 0, 1}}},
		{"2", "2x2", [][]int{{0, 3}}},
		{"2x2", "2x2", [][]int{{0, 0, 3, 3}, {0, 1, 2, 3}, {0, 2, 1, 3}, {0, 3, 0, 3}}},
		{"2x3", "3", [][]int{{0, 1, 2, 0, 1, 2}}},
		{"2x3", "2", [][]int{{0, 0, 0, 1, 1, 1}}},
		{"6", "2x3", [][]int{{0, 4, 2, 3, 1, 5}}},
		{"2[0,0]", "2", [][]int{{0, 1, 0, 1}}},
		{"2[0,0]", "2[0,0]", [][]int{{0, 1, 0, 1}, {0, 1, 2, 3}}},
		{"2[0,0]", "4", nil},
		{"4", "2[0,0]", [][]int{{0, 1, 0, 1}}},
		{"2[1,1]", "2[1,1,0,0]", [][]int{{0, 1, 6, 7}, {0, 1, 7, 6}}},
		{"2[1,1]", "2[1,1,0]", nil},
		{"2[1,1]", "2[1,1]x2", nil},
		{"2[1,1]x2", "2[1,1]", [][]int{{0, 0, 1, 1, 2, 2, 3, 3}, {0, 0, 1, 1, 3, 3, 2, 2}, {0, 1, 0, 1, 0, 1, 0, 1}}},
		{"4[1,1]", "2[1,1]", [][]int{{0, 1, 0, 1, 2, 3, 2, 3, 0, 1, 0, 1, 2, 3, 2, 3}, {0, 1, 0, 1, 3, 2, 3, 2, 0, 1, 0, 1, 3, 2, 3, 2}}},
		{"5", "7", nil},
		{"12", "5", nil},
		{"15", "3x3", [][]int{{0, 4, 8, 0, 4, 8, 0, 4, 8, 0, 4, 8, 0, 4, 8}}},
	} {
		areMaps(t, made(t, c.r), made(t, c.s), c.want)
	}
	for _, c := range []struct {
		r, s  string
		count int
	}{
		{"2[1,1,0,0]", "2[1,1,0,0]", 4}, {"2[1,1,0]", "2[1,0,1]", 3}, {"2[1,1,0,0]", "2[1,1]", 0}, {"2x2x2", "2x2x2", 27}, {"2x2x2x2", "2x2", 16}, {"2x2", "2x2x2x2", 16},
		{"3x3", "3x3", 4}, {"4x4", "2x2", 4}, {"2x2", "4x4", 0}, {"2[1,1]x2[1,1]", "2[1,1]x2[1,1]", 16}, {"3[1,0]", "3[2,1]", 2}, {"2[0,0,0,0]", "2[0,0]", 2},
	} {
		if maps, ok := impl.AllHoms(made(t, c.r), made(t, c.s)); len(maps) != c.count || !ok {
			t.Errorf("AllHoms from %s to %s: %d maps, %v, want %d", c.r, c.s, len(maps), ok, c.count)
		}
	}
}

// TestManyHoms has the most homomorphisms that are told, and more. No two rings have from 257 to 511 of them: for more than 256, the first ring has one maximal ideal, which three elements make and whose products are all 0, and then there are as many as triples with such products in the second one.
func TestManyHoms(t *testing.T) {
	if impl.MaxMaps != 300 {
		t.Errorf("MaxMaps = %d", impl.MaxMaps)
	}
	most := made(t, "2x2x2x2")
	maps, ok := impl.AllHoms(most, most)
	if len(maps) != 256 || !ok || !slices.EqualFunc(maps, triedHoms(most, most), slices.Equal) {
		t.Errorf("AllHoms: %d maps, %v, want 256", len(maps), ok)
	}
	fields := made(t, "2[1,1]x2[1,1]")
	for _, r := range []impl.Ring{flatRing(4), swapped(flatRing(4), 3, 8), swapped(flatRing(4), 1, 14)} {
		for _, s := range []impl.Ring{flatRing(4), swapped(flatRing(4), 2, 15), swapped(flatRing(4), 1, 2)} {
			maps := triedHoms(r, s)
			if len(maps) != 512 {
				t.Fatalf("%d maps, want 512: each of three elements has each of eight images", len(maps))
			}
			areMaps(t, r, s, maps)
			isFirst(t, r, s, maps)
			for _, f := range maps {
				if !impl.IsHom(r, s, f) {
					t.Errorf("IsHom of %v is false", f)
				}
			}
		}
		for _, c := range []struct {
			s     impl.Ring
			count int
		}{{flatRing(3), 64}, {polynomialRing(made(t, "2[0,0]"), []int{0, 0}), 176}, {made(t, "2[0,0,0,0]"), 64}, {remainders(2), 1}, {remainders(16), 0}, {fields, 1}} {
			maps, ok := impl.AllHoms(r, c.s)
			if len(maps) != c.count || !ok {
				t.Errorf("AllHoms from the flat ring to %s: %d maps, %v, want %d", impl.FormatRing(c.s), len(maps), ok, c.count)
			}
		}
	}
}

// TestNoHoms has rings between which there is none, because of One, or though the characteristics fit.
func TestNoHoms(t *testing.T) {
	for _, c := range [][2]string{{"2", "4"}, {"3", "2"}, {"2", "16"}, {"8", "16"}, {"2x2", "4"}, {"2[1,1]", "2"}, {"2[1,1]", "2x2"}, {"2[1,1]", "2[0,0]"}, {"2[1,1,0]", "2[1,1,0,0]"}, {"3[1,0]", "3x3"}, {"2[1,1]", "2[1,1]x2"}, {"1", "2"}, {"1", "16"}} {
		r, s := made(t, c[0]), made(t, c[1])
		areMaps(t, r, s, nil)
		isFirst(t, r, s, nil)
		for _, f := range [][]int{make([]int, r.Size), slices.Repeat([]int{s.One}, r.Size), nil} {
			refusesMap(t, c[0]+" to "+c[1], r, s, f)
		}
	}
}

// TestMapsToRingOfOne has the one map to the ring of one element, and none from there to another ring.
func TestMapsToRingOfOne(t *testing.T) {
	one := remainders(1)
	for _, r := range mapRings(t) {
		zeros := make([]int, r.Size)
		areMaps(t, r, one, [][]int{zeros})
		if !impl.IsHom(r, one, zeros) {
			t.Errorf("IsHom from %s to the ring of one element is false", impl.FormatRing(r))
		}
		got, ok := impl.KernelOf(r, one, zeros)
		isMap(t, "KernelOf", r, one, got, ok, numbersBelow(r.Size))
		got, ok = impl.ImageOf(r, one, zeros)
		isMap(t, "ImageOf", r, one, got, ok, []int{0})
		got, ok = impl.FactorMap(r, one, zeros)
		isMap(t, "FactorMap", r, one, got, ok, []int{0})
		if r.Size == 1 {
			got, ok = impl.IsomorphismOf(r, one)
			isMap(t, "IsomorphismOf", r, one, got, ok, []int{0})
			continue
		}
		areMaps(t, one, r, nil)
		isFirst(t, r, one, nil)
		isFirst(t, one, r, nil)
		refusesMap(t, "from the ring of one element", one, r, []int{0})
		refusesMap(t, "from the ring of one element", one, r, []int{r.One})
		refusesMap(t, "to the ring of one element", r, one, []int{0})
	}
	got, ok := impl.SubringOf(one, nil)
	isMap(t, "SubringOf", one, one, got, ok, []int{0})
	got, ok = impl.SubringOf(one, []int{0, 0})
	isMap(t, "SubringOf", one, one, got, ok, []int{0})
}

func TestIsomorphismOfKnownRings(t *testing.T) {
	for _, c := range []struct {
		r, s string
		want []int
	}{
		{"6", "2x3", []int{0, 4, 2, 3, 1, 5}},
		{"6", "3x2", []int{0, 3, 4, 1, 2, 5}},
		{"2x3", "6", []int{0, 4, 2, 3, 1, 5}},
		{"12", "3x4", []int{0, 5, 10, 3, 4, 9, 2, 7, 8, 1, 6, 11}},
		{"2x2", "2[0,1]", []int{0, 2, 3, 1}},
		{"2[0,1]", "2x2", []int{0, 3, 1, 2}},
		{"2[0,0]", "2[1,0]", []int{0, 1, 3, 2}},
		{"3x3", "3[2,0]", []int{0, 5, 7, 8, 1, 3, 4, 6, 2}},
		{"4", "2x2", nil}, {"4", "2[1,1]", nil}, {"4", "2[0,0]", nil}, {"2x2", "4", nil}, {"2x2", "2[1,1]", nil}, {"2x2", "2[0,0]", nil},
		{"2[1,1]", "4", nil}, {"2[1,1]", "2x2", nil}, {"2[1,1]", "2[0,0]", nil}, {"2[0,0]", "4", nil}, {"2[0,0]", "2x2", nil}, {"2[0,0]", "2[1,1]", nil},
		{"9", "3x3", nil}, {"16", "4x4", nil}, {"8", "2x4", nil}, {"12", "2x2x3", nil}, {"4[0,0]", "4[2,0]", nil},
		{"2", "2x2", nil}, {"2x2", "2", nil}, {"2", "2[1,1]", nil}, {"5", "7", nil}, // of different sizes
	} {
		r, s := made(t, c.r), made(t, c.s)
		got, ok := impl.IsomorphismOf(r, s)
		if c.want == nil {
			isNoList(t, "IsomorphismOf from "+c.r+" to "+c.s, got, ok)
			continue
		}
		isMap(t, "IsomorphismOf", r, s, got, ok, c.want)
	}
}

// TestSeveralIsomorphisms has rings with several isomorphisms to themselves, of which the first one leaves all elements as they are, as it does if there are too many to be told.
func TestSeveralIsomorphisms(t *testing.T) {
	for text, count := range map[string]int{"2": 1, "16": 1, "2x2": 2, "2[1,1]": 2, "2[1,1,0]": 3, "2[1,1,0,0]": 4, "2x2x2": 6, "3x3": 2, "2x2x2x2": 24, "2[1,1]x2[1,1]": 8, "2[0,0]": 1, "2[0,0,0]": 2, "3[0,0]": 2} {
		r := made(t, text)
		maps, _ := impl.AllHoms(r, r)
		several := slices.DeleteFunc(maps, func(f []int) bool { return !isOnto(r, f) })
		if len(several) != count {
			t.Errorf("%s has the isomorphisms %v to itself, want %d", text, several, count)
		}
	}
	for _, r := range append(idealRings(), flatRing(4)) {
		got, ok := impl.IsomorphismOf(r, r)
		isMap(t, "IsomorphismOf", r, r, got, ok, numbersBelow(r.Size))
	}
}

// TestIsomorphismOfRenamed has all other numbers of the elements of small rings, and two orders of the elements of large ones.
func TestIsomorphismOfRenamed(t *testing.T) {
	check := func(r impl.Ring, names []int, own [][]int) {
		s, ok := impl.RenameRing(r, names)
		if !ok || !impl.IsHom(r, s, names) {
			t.Errorf("IsHom of the names %v from %s is false", names, impl.FormatRing(r))
		}
		// Each map between both is one from r to itself, followed or preceded by the names.
		var there, back [][]int
		for _, f := range own {
			named, unnamed := make([]int, r.Size), make([]int, r.Size)
			for a, b := range f {
				named[a], unnamed[names[a]] = names[b], b
			}
			there, back = append(there, named), append(back, unnamed)
		}
		slices.SortFunc(there, slices.Compare)
		slices.SortFunc(back, slices.Compare)
		areMaps(t, r, s, there)
		isFirst(t, r, s, there)
		areMaps(t, s, r, back)
		isFirst(t, s, r, back)
	}
	for _, r := range mapRings(t) {
		own := triedHoms(r, r)
		if r.Size <= 5 {
			for _, names := range orders(r.Size) {
				check(r, names, own)
			}
		}
		if r.Size > 2 {
			names := numbersBelow(r.Size)
			slices.Reverse(names[1:])
			check(r, names, own)
			check(r, append([]int{0, r.Size - 1}, numbersBelow(r.Size - 1)[1:]...), own)
		}
	}
}

// imageRing returns the ring of the elements of a list in order, with the sums, products and One of another ring.
func imageRing(s impl.Ring, list []int) impl.Ring {
	index := func(a int) int { return slices.Index(list, a) }
	sum := func(a, b int) int { return index(sumIn(s, list[a], list[b])) }
	product := func(a, b int) int { return index(productIn(s, list[a], list[b])) }
	return tabled(len(list), index(s.One), sum, product)
}

// TestKernelAndImage checks that each kernel is an ideal, each image a subring, and the quotient by the kernel the image.
func TestKernelAndImage(t *testing.T) {
	eachHom(t, func(r, s impl.Ring, f []int) {
		kernel, ok := impl.KernelOf(r, s, f)
		isMap(t, "KernelOf "+show(f...), r, s, kernel, ok, chosen(r, func(a int) bool { return f[a] == 0 }))
		image, ok := impl.ImageOf(r, s, f)
		isMap(t, "ImageOf "+show(f...), r, s, image, ok, chosen(s, func(b int) bool { return slices.Contains(f, b) }))
		if len(kernel)*len(image) != r.Size {
			t.Errorf("%v from %s to %s has the kernel %v and the image %v", f, impl.FormatRing(r), impl.FormatRing(s), kernel, image)
		}
		q, names := quotientBy(t, r, kernel)
		g, ok := impl.FactorMap(r, s, f)
		if !ok || !respectsAll(q, s, g) {
			t.Fatalf("FactorMap from %s to %s of %v = %v, %v", impl.FormatRing(r), impl.FormatRing(s), f, g, ok)
		}
		for a, name := range names {
			if g[name] != f[a] {
				t.Errorf("FactorMap from %s to %s of %v = %v", impl.FormatRing(r), impl.FormatRing(s), f, g)
			}
		}
		if sub, ok := impl.SubringOf(s, image); !ok || !slices.Equal(sub, image) {
			t.Errorf("the image %v in %s is no subring", image, impl.FormatRing(s))
		}
		inner, okKernel := impl.KernelOf(q, s, g)
		outer, okImage := impl.ImageOf(q, s, g)
		isMap(t, "KernelOf the FactorMap", q, s, inner, okKernel, []int{0})
		isMap(t, "ImageOf the FactorMap", q, s, outer, okImage, image)
		small := imageRing(s, image)
		var places []int
		for _, b := range g {
			places = append(places, slices.Index(image, b))
		}
		if !impl.IsHom(q, small, places) || !isOnto(small, places) {
			t.Errorf("the quotient of %s by %v is not the image %v in %s", impl.FormatRing(r), kernel, image, impl.FormatRing(s))
		}
		if onto, ok := impl.IsomorphismOf(q, small); !ok || !respectsAll(q, small, onto) {
			t.Errorf("IsomorphismOf from the quotient to the image = %v, %v", onto, ok)
		}
	})
}

// TestIdealsAreKernels checks that each ideal is the kernel of the map to its classes, which has the image of all classes.
func TestIdealsAreKernels(t *testing.T) {
	eachIdeal(func(r impl.Ring, ideal []int) {
		q, names := quotientBy(t, r, ideal)
		if !impl.IsHom(r, q, names) {
			t.Errorf("IsHom from %s to the classes by %v is false", impl.FormatRing(r), ideal)
		}
		got, ok := impl.KernelOf(r, q, names)
		isMap(t, "KernelOf the classes", r, q, got, ok, ideal)
		got, ok = impl.ImageOf(r, q, names)
		isMap(t, "ImageOf the classes", r, q, got, ok, numbersBelow(q.Size))
		got, ok = impl.FactorMap(r, q, names)
		isMap(t, "FactorMap of the classes", r, q, got, ok, numbersBelow(q.Size))
	})
}

func TestKernelsAndImagesOfKnownMaps(t *testing.T) {
	for _, c := range []struct {
		r, s          string
		f             []int
		kernel, image []int
		factor        []int
	}{
		{"4", "2", []int{0, 1, 0, 1}, []int{0, 2}, []int{0, 1}, []int{0, 1}},
		{"12", "4", []int{0, 1, 2, 3, 0, 1, 2, 3, 0, 1, 2, 3}, []int{0, 4, 8}, []int{0, 1, 2, 3}, []int{0, 1, 2, 3}},
		{"4", "4[0,0]", []int{0, 1, 2, 3}, []int{0}, []int{0, 1, 2, 3}, []int{0, 1, 2, 3}},
		{"2", "2x2", []int{0, 3}, []int{0}, []int{0, 3}, []int{0, 3}},
		{"2x2", "2x2", []int{0, 0, 3, 3}, []int{0, 1}, []int{0, 3}, []int{0, 3}},
		{"2x2", "2x2", []int{0, 2, 1, 3}, []int{0}, []int{0, 1, 2, 3}, []int{0, 2, 1, 3}},
		{"2[1,1]", "2[1,1]", []int{0, 1, 3, 2}, []int{0}, []int{0, 1, 2, 3}, []int{0, 1, 3, 2}},
		{"2[0,0]", "2[0,0]", []int{0, 1, 0, 1}, []int{0, 2}, []int{0, 1}, []int{0, 1}},
		{"15", "3x3", []int{0, 4, 8, 0, 4, 8, 0, 4, 8, 0, 4, 8, 0, 4, 8}, []int{0, 3, 6, 9, 12}, []int{0, 4, 8}, []int{0, 4, 8}},
		{"4[1,1]", "2[1,1]", []int{0, 1, 0, 1, 3, 2, 3, 2, 0, 1, 0, 1, 3, 2, 3, 2}, []int{0, 2, 8, 10}, []int{0, 1, 2, 3}, []int{0, 1, 3, 2}},
	} {
		r, s := made(t, c.r), made(t, c.s)
		got, ok := impl.KernelOf(r, s, c.f)
		isMap(t, "KernelOf", r, s, got, ok, c.kernel)
		got, ok = impl.ImageOf(r, s, c.f)
		isMap(t, "ImageOf", r, s, got, ok, c.image)
		got, ok = impl.FactorMap(r, s, c.f)
		isMap(t, "FactorMap", r, s, got, ok, c.factor)
	}
}

func TestThenMap(t *testing.T) {
	for _, c := range []struct{ f, g, want []int }{
		{nil, nil, nil},
		{nil, []int{4, 5}, nil},
		{[]int{}, []int{-1}, nil},
		{[]int{0}, []int{7}, []int{7}},
		{[]int{2, 0}, []int{5, 6, 7}, []int{7, 5}},
		{[]int{1, 1, 1, 1}, []int{0, 3}, []int{3, 3, 3, 3}},
		{[]int{2, 1, 0}, []int{2, 1, 0}, []int{0, 1, 2}},
		{[]int{0, 1}, []int{-5, math.MinInt}, []int{-5, math.MinInt}}, // only numbers of the first list are looked up
		{[]int{1}, []int{-5, math.MaxInt}, []int{math.MaxInt}},
		{slices.Repeat([]int{16}, 100000), numbersBelow(17), slices.Repeat([]int{16}, 100000)},
	} {
		got, ok := impl.ThenMap(c.f, c.g)
		if !ok || !slices.Equal(got, c.want) {
			t.Errorf("ThenMap = %d numbers, %v, want %d: the first ones are %v and %v", len(got), ok, len(c.want), got[:min(9, len(got))], c.want[:min(9, len(c.want))])
		}
	}
	for _, c := range [][2][]int{
		{{0}, nil}, {{0}, {}}, {{3}, {5, 6, 7}}, {{0, 1, 2, 3}, {5, 6, 7}}, {{3, 0}, {5, 6, 7}}, {{1, 4, 1}, {5, 6, 7}}, {{math.MaxInt}, {5}},
		{{-1}, {5, 6, 7}}, {{0, 1, -1}, {5, 6, 7}}, {{-3, 0}, {5, 6, 7}}, {{math.MinInt}, {5}}, {{-1}, nil},
	} {
		got, ok := impl.ThenMap(c[0], c[1])
		isNoList(t, "ThenMap "+show(c[0]...)+" and "+show(c[1]...), got, ok)
	}
}

// TestThenMapOfHoms checks that one homomorphism and then another one are a third one, whose kernel has that of the first one and whose image is in that of the second one.
func TestThenMapOfHoms(t *testing.T) {
	rings := []impl.Ring{remainders(12), remainders(4), remainders(2), remainders(1), fieldOfFour(), pairs(2, 2), made(t, "2[0,0]"), made(t, "4[1,1]"), made(t, "2x2x2"), made(t, "2[1,1,0,0]"), remainders(3), pairs(3, 3)}
	for _, r := range rings {
		for _, s := range rings {
			first, _ := impl.AllHoms(r, s)
			for _, u := range rings {
				second, _ := impl.AllHoms(s, u)
				for _, f := range first {
					for _, g := range second {
						h, ok := impl.ThenMap(f, g)
						if !ok || !respectsAll(r, u, h) {
							t.Fatalf("ThenMap %v and %v = %v, %v", f, g, h, ok)
						}
						small, _ := impl.KernelOf(r, s, f)
						large, _ := impl.KernelOf(r, u, h)
						inner, _ := impl.ImageOf(r, u, h)
						outer, _ := impl.ImageOf(s, u, g)
						if !hasEach(large, small) || !hasEach(outer, inner) {
							t.Errorf("%v and then %v: kernels %v and %v, images %v and %v", f, g, small, large, inner, outer)
						}
					}
				}
			}
		}
	}
}

// closedSubring returns, in order, 0, One, some elements, and all sums and products of what is there already, until nothing new comes.
func closedSubring(r impl.Ring, list []int) []int {
	in := make([]bool, r.Size)
	for _, a := range append([]int{0, r.One}, list...) {
		in[a] = true
	}
	for range r.Size {
		for a := range r.Size {
			for b := range r.Size {
				if in[a] && in[b] {
					in[sumIn(r, a, b)], in[productIn(r, a, b)] = true, true
				}
			}
		}
	}
	return chosen(r, func(a int) bool { return in[a] })
}

func TestSubringOf(t *testing.T) {
	for _, r := range idealRings() {
		check := func(list ...int) {
			got, ok := impl.SubringOf(r, list)
			isThatIdeal(t, "SubringOf "+show(list...), r, got, ok, closedSubring(r, list))
		}
		check()
		check(0, r.One, 0)
		for a := range r.Size {
			check(a)
			check(a, a, a)
			check(r.Size-1, a, 0)
			check(a, (a+3)%r.Size, (a*a+1)%r.Size)
		}
	}
}

// TestSubringOfSets has all lists of elements of small rings, from the greatest one down, and the first with the fewest elements of all subrings that have one.
func TestSubringOfSets(t *testing.T) {
	for _, r := range mapRings(t) {
		if r.Size > 9 {
			continue
		}
		var subrings [][]int
		for number := range 1 << r.Size {
			if list := withDigits(number); slices.Contains(list, 0) && slices.Equal(closedSubring(r, list), list) {
				subrings = append(subrings, list)
			}
		}
		slices.SortFunc(subrings, func(a, b []int) int { return len(a) - len(b) })
		for number := range 1 << r.Size {
			list := withDigits(number)
			slices.Reverse(list)
			got, ok := impl.SubringOf(r, list)
			isThatIdeal(t, "SubringOf "+show(list...), r, got, ok, fewest(subrings, list))
		}
	}
}

func TestSubringOfKnownRings(t *testing.T) {
	for _, c := range []struct {
		text       string
		list, want []int
	}{
		{"12", nil, numbersBelow(12)},
		{"2[1,1]", nil, []int{0, 1}},
		{"2[1,1]", []int{3}, []int{0, 1, 2, 3}},
		{"2x2", []int{0}, []int{0, 3}},
		{"2x2", []int{1}, []int{0, 1, 2, 3}},
		{"2x2x2", []int{1}, []int{0, 1, 6, 7}},
		{"2x2x2", []int{4, 2}, numbersBelow(8)},
		{"2[1,1,0,0]", []int{6}, []int{0, 1, 6, 7}},
		{"2[1,1,0,0]", []int{2}, numbersBelow(16)},
		{"4[0,0]", []int{8}, []int{0, 1, 2, 3, 8, 9, 10, 11}},
		{"4[0,0]", []int{4}, numbersBelow(16)},
		{"4x4", nil, []int{0, 5, 10, 15}},
		{"4x4", []int{2}, []int{0, 2, 5, 7, 8, 10, 13, 15}},
		{"2[0,0,0,0]", []int{4}, []int{0, 1, 4, 5}},
		{"2[0,0,0,0]", []int{8, 4}, []int{0, 1, 4, 5, 8, 9, 12, 13}},
	} {
		r := made(t, c.text)
		got, ok := impl.SubringOf(r, c.list)
		isThatIdeal(t, "SubringOf "+show(c.list...), r, got, ok, c.want)
	}
	got, ok := impl.SubringOf(fieldOfFour(), slices.Repeat([]int{1, 0}, 100000))
	isThatIdeal(t, "SubringOf a long list", fieldOfFour(), got, ok, []int{0, 1})
}

func TestSubringOfNoElements(t *testing.T) {
	for _, r := range idealRings() {
		for _, list := range [][]int{{r.Size}, {-1}, {0, r.Size}, {-1, 0}, {math.MaxInt}, {math.MinInt}, numbersBelow(r.Size + 1), {0, 0, -r.Size}} {
			got, ok := impl.SubringOf(r, list)
			isNoList(t, impl.FormatRing(r)+": SubringOf "+show(list...), got, ok)
		}
	}
}

// refusesMap checks what the functions return for a list that is no homomorphism.
func refusesMap(t *testing.T, what string, r, s impl.Ring, f []int) {
	t.Helper()
	what += " " + show(f...)
	if impl.IsHom(r, s, f) {
		t.Errorf("%s: IsHom is true", what)
	}
	got, ok := impl.KernelOf(r, s, f)
	isNoList(t, what+": KernelOf", got, ok)
	got, ok = impl.ImageOf(r, s, f)
	isNoList(t, what+": ImageOf", got, ok)
	got, ok = impl.FactorMap(r, s, f)
	isNoList(t, what+": FactorMap", got, ok)
}

func TestFunctionsOfNoHoms(t *testing.T) {
	for _, c := range []struct {
		r, s string
		f    [][]int
	}{
		{"4", "2", [][]int{
			nil, {}, {0}, {0, 1}, {0, 1, 0}, {1, 0, 1}, {0, 1, 0, 1, 0}, {0, 1, 0, 1, 0, 1}, numbersBelow(17), // too short or too long
			{0, 0, 0, 0}, {1, 1, 1, 1}, {0, 0, 1, 1}, {0, 1, 1, 0}, {1, 0, 1, 0}, {0, 1, 0, 0}, {0, 0, 0, 1}, {0, 1, 1, 1}, // no homomorphisms
			{0, 1, 2, 3}, {0, 1, 0, 2}, {0, 1, 0, 3}, {0, 1, 0, -1}, {0, -1, 0, -1}, {-2, 1, 0, 1}, {0, 1, -2, 1}, {0, 1, 2, 1}, {2, 1, 0, 1}, {0, 1, 0, math.MaxInt}, {0, 1, 0, math.MinInt}, // no elements
		}},
		{"2", "4", [][]int{{0, 1}, {0, 2}, {0, 3}, {1, 0}, {0, 0}, {0, 5}, {0, -3}, {0, 1, 0, 1}}},
		{"2x2", "2x2", [][]int{{0, 0, 0, 0}, {3, 3, 3, 3}, {3, 2, 1, 0}, {0, 1, 1, 0}, {0, 1, 3, 2}, {0, 0, 1, 1}, {0, 3, 3, 3}}},
		{"2[1,1]", "2[1,1]", [][]int{{0, 2, 3, 1}, {0, 2, 1, 3}, {0, 1, 1, 1}, {0, 1, 0, 1}, {0, 1, 2, 2}, {0, 1, 2, 3, 0}, {0, 1, 2, 4}}},
		{"1", "1", [][]int{nil, {1}, {-1}, {0, 0}}},
	} {
		for _, f := range c.f {
			refusesMap(t, c.r+" to "+c.s, made(t, c.r), made(t, c.s), f)
		}
	}
}

func TestMapsOfBadRings(t *testing.T) {
	good := []impl.Ring{remainders(1), remainders(2), remainders(4), remainders(16), pairs(2, 2)}
	check := func(what string, r, s impl.Ring) {
		for _, f := range [][]int{nil, {0}, {0, 1}, {0, 1, 0, 1}, {0, 0, 0, 0}, numbersBelow(4), numbersBelow(16), numbersBelow(17), make([]int, 17), {-1}, {0, 1, 2, math.MaxInt}} {
			refusesMap(t, what, r, s, f)
		}
		if maps, ok := impl.AllHoms(r, s); len(maps) != 0 || ok {
			t.Errorf("%s: AllHoms = %v, %v", what, maps, ok)
		}
		got, ok := impl.IsomorphismOf(r, s)
		isNoList(t, what+": IsomorphismOf", got, ok)
	}
	for name, r := range badRings() {
		for _, s := range good {
			check("from "+name, r, s)
			check("to "+name, s, r)
		}
		check("from and to "+name, r, r)
		check("from and to "+name, r, copied(r))
		for _, list := range [][]int{nil, {0}, {0, 1}, {2, 0}, {-1}, {4}, {16}, {17}, numbersBelow(17), {math.MinInt}, {math.MaxInt}} {
			got, ok := impl.SubringOf(r, list)
			isNoList(t, name+": SubringOf "+show(list...), got, ok)
		}
	}
}

// TestMapsAgain calls the functions many times and at once, since goroutines end in any order.
func TestMapsAgain(t *testing.T) {
	r, s := made(t, "2x2x2"), made(t, "2x2x2x2")
	maps, first := triedHoms(r, s), numbersBelow(8)
	var calling sync.WaitGroup
	for range 8 {
		calling.Go(func() {
			for range 50 {
				areMaps(t, r, s, maps)
				got, ok := impl.IsomorphismOf(r, r)
				isMap(t, "IsomorphismOf", r, r, got, ok, first)
			}
		})
	}
	calling.Wait()
}

// TestMapsMemory checks that arguments, and what lies behind their ends, stay as they are, and that results have memory of their own.
func TestMapsMemory(t *testing.T) {
	plain := pairs(2, 2)
	sums, sumsKept := guarded(plain.Sums)
	products, productsKept := guarded(plain.Products)
	f, fKept := guarded([]int{0, 1, 2, 3})
	g, gKept := guarded([]int{0, 0, 3, 3})
	list, listKept := guarded([]int{3, 0, 3})
	kept := func() bool { return sumsKept() && productsKept() && fKept() && gKept() && listKept() }
	r := impl.Ring{Size: 4, One: 3, Sums: sums, Products: products}
	for name, call := range map[string]func() ([]int, bool){
		"KernelOf":                func() ([]int, bool) { return impl.KernelOf(r, r, g) },
		"ImageOf":                 func() ([]int, bool) { return impl.ImageOf(r, r, f) },
		"ThenMap":                 func() ([]int, bool) { return impl.ThenMap(f, g) },
		"ThenMap with itself":     func() ([]int, bool) { return impl.ThenMap(f, f) },
		"IsomorphismOf":           func() ([]int, bool) { return impl.IsomorphismOf(r, r) },
		"SubringOf":               func() ([]int, bool) { return impl.SubringOf(r, list) },
		"SubringOf a subring":     func() ([]int, bool) { return impl.SubringOf(r, f) },
		"FactorMap":               func() ([]int, bool) { return impl.FactorMap(r, r, g) },
		"FactorMap of a renaming": func() ([]int, bool) { return impl.FactorMap(r, r, f) },
	} {
		first, _ := call()
		again, ok := call()
		want := slices.Clone(again)
		overwrite(first)
		if len(again) == 0 || !ok || !slices.Equal(again, want) || !kept() {
			t.Errorf("%s: memory is shared or changed", name)
		}
	}
	first, _ := impl.AllHoms(r, r)
	again, ok := impl.AllHoms(r, r)
	for i, h := range first {
		overwrite(h)
		if slices.ContainsFunc(first[i+1:], func(other []int) bool { return slices.Contains(other, -9) }) {
			t.Errorf("AllHoms: map %d shares its memory with another one", i)
		}
	}
	for i := range first[:cap(first)] {
		first[:cap(first)][i] = nil
	}
	if want := triedHoms(plain, plain); !ok || !slices.EqualFunc(again, want, slices.Equal) {
		t.Errorf("AllHoms = %v, %v: memory is shared", again, ok)
	}
	impl.IsHom(r, r, f)
	if !kept() {
		t.Error("an argument has changed")
	}
}
