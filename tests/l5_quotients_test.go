package tests

import (
	"math"
	"slices"
	"testing"

	"loop.example/finiterings/impl"
)

// eachIdeal visits all ideals of all rings.
func eachIdeal(visit func(r impl.Ring, ideal []int)) {
	for _, r := range idealRings() {
		for _, ideal := range impl.AllIdeals(r) {
			visit(r, ideal)
		}
	}
}

// sumIn returns the sum of two elements by the table of a ring.
func sumIn(r impl.Ring, a, b int) int {
	return r.Sums[a*r.Size+b]
}

// classesBy returns the classes by an ideal in their order, by trying for each two elements whether one is the sum of the other one and an element of the ideal.
func classesBy(r impl.Ring, ideal []int) [][]int {
	var classes [][]int
	for a := range r.Size {
		class := chosen(r, func(b int) bool {
			return slices.ContainsFunc(ideal, func(c int) bool { return sumIn(r, a, c) == b })
		})
		if class[0] == a {
			classes = append(classes, class)
		}
	}
	return classes
}

// classWith returns the index of the class that has an element.
func classWith(classes [][]int, a int) int {
	return slices.IndexFunc(classes, func(class []int) bool { return slices.Contains(class, a) })
}

// ofClasses returns the ring of classes, whose sums and products are those of their last elements.
func ofClasses(r impl.Ring, classes [][]int) impl.Ring {
	last := func(class int) int { return classes[class][len(classes[class])-1] }
	sum := func(a, b int) int { return classWith(classes, sumIn(r, last(a), last(b))) }
	product := func(a, b int) int { return classWith(classes, productIn(r, last(a), last(b))) }
	return tabled(len(classes), classWith(classes, r.One), sum, product)
}

// quotientBy returns the quotient by an ideal and the class of each element, which there must be.
func quotientBy(t *testing.T, r impl.Ring, ideal []int) (impl.Ring, []int) {
	t.Helper()
	q, names, ok := impl.QuotientRing(r, ideal)
	if !ok || !impl.RingValid(q) || len(names) != r.Size {
		t.Fatalf("QuotientRing of %s by %v = %v, %v, %v", impl.FormatRing(r), ideal, q, names, ok)
	}
	return q, names
}

// isNoQuotient checks that a function has returned the zero value, an empty slice and false.
func isNoQuotient(t *testing.T, what string, q impl.Ring, names []int, ok bool) {
	t.Helper()
	if !impl.SameRing(q, impl.Ring{}) || len(names) != 0 || ok {
		t.Errorf("%s = %v, %v, %v", what, q, names, ok)
	}
}

// areLists checks that a function has returned some lists and true.
func areLists(t *testing.T, what string, r impl.Ring, got [][]int, ok bool, want [][]int) {
	t.Helper()
	if !ok || !slices.EqualFunc(got, want, slices.Equal) {
		t.Errorf("%s in %s = %v, %v, want %v", what, impl.FormatRing(r), got, ok, want)
	}
}

func TestClassesOf(t *testing.T) {
	eachIdeal(func(r impl.Ring, ideal []int) {
		got, ok := impl.ClassesOf(r, ideal)
		areLists(t, "ClassesOf "+show(ideal...), r, got, ok, classesBy(r, ideal))
	})
}

func TestClassesOfKnownRings(t *testing.T) {
	for _, c := range []struct {
		text  string
		ideal []int
		want  [][]int
	}{
		{"12", []int{0, 4, 8}, [][]int{{0, 4, 8}, {1, 5, 9}, {2, 6, 10}, {3, 7, 11}}},
		{"12", []int{0, 6}, [][]int{{0, 6}, {1, 7}, {2, 8}, {3, 9}, {4, 10}, {5, 11}}},
		{"12", []int{0, 3, 6, 9}, [][]int{{0, 3, 6, 9}, {1, 4, 7, 10}, {2, 5, 8, 11}}},
		{"2x2", []int{0, 2}, [][]int{{0, 2}, {1, 3}}},
		{"2x3", []int{0, 1, 2}, [][]int{{0, 1, 2}, {3, 4, 5}}},
		{"2x3", []int{0, 3}, [][]int{{0, 3}, {1, 4}, {2, 5}}},
		{"2[0,1]", []int{0, 3}, [][]int{{0, 3}, {1, 2}}},
		{"2[0,0]", []int{0, 2}, [][]int{{0, 2}, {1, 3}}},
		{"4[0,0]", []int{0, 6, 8, 14}, [][]int{{0, 6, 8, 14}, {1, 7, 9, 15}, {2, 4, 10, 12}, {3, 5, 11, 13}}},
	} {
		r := made(t, c.text)
		got, ok := impl.ClassesOf(r, c.ideal)
		areLists(t, "ClassesOf "+show(c.ideal...), r, got, ok, c.want)
	}
}

func TestQuotientRing(t *testing.T) {
	eachIdeal(func(r impl.Ring, ideal []int) {
		what := "QuotientRing by " + show(ideal...)
		classes := classesBy(r, ideal)
		q, names, ok := impl.QuotientRing(r, ideal)
		isRing(t, what, q, ok, ofClasses(r, classes))
		var want []int
		for a := range r.Size {
			want = append(want, classWith(classes, a))
		}
		isList(t, what+": names", r, names, want)
	})
}

// TestQuotientIsRing checks the laws of each quotient, and that its sums and products are those of any elements of its classes.
func TestQuotientIsRing(t *testing.T) {
	eachIdeal(func(r impl.Ring, ideal []int) {
		q, names := quotientBy(t, r, ideal)
		if broken := faults(q); len(broken) > 0 {
			t.Errorf("the quotient of %s by %v is no ring: %v", impl.FormatRing(r), ideal, broken)
		}
		if q.Size*len(ideal) != r.Size || names[0] != 0 || names[r.One] != q.One {
			t.Errorf("the quotient of %s by %v is %s with the names %v", impl.FormatRing(r), ideal, impl.FormatRing(q), names)
		}
		for a := range r.Size {
			for b := range r.Size {
				if sumIn(q, names[a], names[b]) != names[sumIn(r, a, b)] || productIn(q, names[a], names[b]) != names[productIn(r, a, b)] {
					t.Errorf("the sum or the product of the classes of %d and %d in %s by %v", a, b, impl.FormatRing(r), ideal)
				}
			}
		}
	})
}

func TestQuotientsOfIntegers(t *testing.T) {
	for n := 1; n <= impl.MaxSize; n++ {
		for d := 1; d <= n; d++ {
			if n%d != 0 {
				continue
			}
			r, want := remainders(n), make([]int, n)
			for a := range want {
				want[a] = a % d
			}
			q, names, ok := impl.QuotientRing(r, multiplesBelow(n, d))
			isRing(t, "QuotientRing by "+show(d), q, ok, remainders(d))
			isList(t, "QuotientRing by "+show(d)+": names", r, names, want)
		}
	}
}

// TestQuotientsOfPairs takes one part of the pairs away, so that the ring of the other one is left.
func TestQuotientsOfPairs(t *testing.T) {
	eachPair(someRings(), func(r, s impl.Ring) {
		both := pairRing(r, s)
		firsts, seconds := make([]int, both.Size), make([]int, both.Size)
		for a := range both.Size {
			firsts[a], seconds[a] = a/s.Size, a%s.Size
		}
		q, names, ok := impl.QuotientRing(both, numbersBelow(s.Size))
		isRing(t, "QuotientRing by the second parts", q, ok, r)
		isList(t, "QuotientRing by the second parts: names", both, names, firsts)
		q, names, ok = impl.QuotientRing(both, multiplesBelow(both.Size, s.Size))
		isRing(t, "QuotientRing by the first parts", q, ok, s)
		isList(t, "QuotientRing by the first parts: names", both, names, seconds)
	})
}

func TestQuotientsOfPolynomials(t *testing.T) {
	for _, c := range []struct {
		text  string
		by    int
		want  string
		names []int
	}{
		{"2[0,0,0,0]", 8, "2[0,0,0]", []int{0, 1, 2, 3, 4, 5, 6, 7, 0, 1, 2, 3, 4, 5, 6, 7}},
		{"2[0,0,0,0]", 4, "2[0,0]", []int{0, 1, 2, 3, 0, 1, 2, 3, 0, 1, 2, 3, 0, 1, 2, 3}},
		{"2[1,0,0,0]", 3, "2", []int{0, 1, 1, 0, 1, 0, 0, 1, 1, 0, 0, 1, 0, 1, 1, 0}},
		{"3[0,1]", 3, "3", []int{0, 1, 2, 0, 1, 2, 0, 1, 2}},
		{"3[0,1]", 4, "3", []int{0, 1, 2, 2, 0, 1, 1, 2, 0}},
		{"4[1,1]", 2, "2[1,1]", []int{0, 1, 0, 1, 2, 3, 2, 3, 0, 1, 0, 1, 2, 3, 2, 3}},
		{"4[0,0]", 4, "4", []int{0, 1, 2, 3, 0, 1, 2, 3, 0, 1, 2, 3, 0, 1, 2, 3}},
	} {
		r := made(t, c.text)
		ideal, _ := impl.IdealOf(r, []int{c.by})
		q, names, ok := impl.QuotientRing(r, ideal)
		isRing(t, "QuotientRing of "+c.text, q, ok, made(t, c.want))
		isList(t, "QuotientRing: names", r, names, c.names)
	}
}

// TestQuotientByZeroAndWhole has classes of one element each, and one class of all elements.
func TestQuotientByZeroAndWhole(t *testing.T) {
	for _, r := range idealRings() {
		zero, whole := []int{0}, numbersBelow(r.Size)
		q, names, ok := impl.QuotientRing(r, zero)
		isRing(t, "QuotientRing by 0", q, ok, r)
		isList(t, "QuotientRing by 0: names", r, names, whole)
		var single [][]int
		for a := range r.Size {
			single = append(single, []int{a})
		}
		classes, ok := impl.ClassesOf(r, zero)
		areLists(t, "ClassesOf 0", r, classes, ok, single)
		q, names, ok = impl.QuotientRing(r, whole)
		isRing(t, "QuotientRing by the whole ring", q, ok, remainders(1))
		isList(t, "QuotientRing by the whole ring: names", r, names, make([]int, r.Size))
		classes, ok = impl.ClassesOf(r, whole)
		areLists(t, "ClassesOf the whole ring", r, classes, ok, [][]int{whole})
		got, ok := impl.LiftIdeal(r, whole, zero)
		isThatIdeal(t, "LiftIdeal by the whole ring", r, got, ok, whole)
		for _, ideal := range impl.AllIdeals(r) {
			got, ok = impl.PushIdeal(r, whole, ideal)
			isThatIdeal(t, "PushIdeal by the whole ring", r, got, ok, zero)
			got, ok = impl.PushIdeal(r, zero, ideal)
			isThatIdeal(t, "PushIdeal by 0", r, got, ok, ideal)
			got, ok = impl.LiftIdeal(r, zero, ideal)
			isThatIdeal(t, "LiftIdeal by 0", r, got, ok, ideal)
		}
	}
}

// TestLiftIdeal has all ideals of all quotients.
func TestLiftIdeal(t *testing.T) {
	eachIdeal(func(r impl.Ring, ideal []int) {
		q, names := quotientBy(t, r, ideal)
		for _, above := range impl.AllIdeals(q) {
			got, ok := impl.LiftIdeal(r, ideal, above)
			isThatIdeal(t, "LiftIdeal by "+show(ideal...)+" of "+show(above...), r, got, ok, chosen(r, func(a int) bool { return slices.Contains(above, names[a]) }))
		}
	})
}

func TestPushIdeal(t *testing.T) {
	eachIdeal(func(r impl.Ring, ideal []int) {
		q, names := quotientBy(t, r, ideal)
		for _, other := range impl.AllIdeals(r) {
			got, ok := impl.PushIdeal(r, ideal, other)
			isThatIdeal(t, "PushIdeal by "+show(ideal...)+" of "+show(other...), r, got, ok, chosen(q, func(class int) bool {
				return slices.ContainsFunc(other, func(a int) bool { return names[a] == class })
			}))
			if !impl.IsIdeal(q, got) {
				t.Errorf("PushIdeal of %v is %v, which is no ideal of %s", other, got, impl.FormatRing(q))
			}
		}
	})
}

func TestLiftAndPushOfKnownRings(t *testing.T) {
	for _, c := range []struct {
		text        string
		ideal       []int
		above, lift []int
		other, push []int
	}{
		{"12", []int{0, 4, 8}, []int{0, 2}, []int{0, 2, 4, 6, 8, 10}, []int{0, 6}, []int{0, 2}},
		{"12", []int{0, 4, 8}, []int{0}, []int{0, 4, 8}, []int{0, 3, 6, 9}, []int{0, 1, 2, 3}},
		{"12", []int{0, 6}, []int{0, 3}, []int{0, 3, 6, 9}, []int{0, 4, 8}, []int{0, 2, 4}},
		{"12", []int{0, 6}, []int{0, 2, 4}, []int{0, 2, 4, 6, 8, 10}, []int{0}, []int{0}},
		{"2x4", []int{0, 2}, []int{0, 2}, []int{0, 2, 4, 6}, []int{0, 4}, []int{0, 2}},
		{"2x4", []int{0, 4}, []int{0, 2}, []int{0, 2, 4, 6}, []int{0, 1, 2, 3}, []int{0, 1, 2, 3}},
		{"4[0,0]", []int{0, 8}, []int{0, 6}, []int{0, 6, 8, 14}, []int{0, 4, 8, 12}, []int{0, 4}},
	} {
		r := made(t, c.text)
		got, ok := impl.LiftIdeal(r, c.ideal, c.above)
		isThatIdeal(t, "LiftIdeal by "+show(c.ideal...)+" of "+show(c.above...), r, got, ok, c.lift)
		got, ok = impl.PushIdeal(r, c.ideal, c.other)
		isThatIdeal(t, "PushIdeal by "+show(c.ideal...)+" of "+show(c.other...), r, got, ok, c.push)
	}
}

// TestIdealsOfQuotients checks that the ideals of a quotient are those above its ideal: each of them is lifted from just one.
func TestIdealsOfQuotients(t *testing.T) {
	eachIdeal(func(r impl.Ring, ideal []int) {
		q, _ := quotientBy(t, r, ideal)
		var lifted, above [][]int
		for _, small := range impl.AllIdeals(q) {
			large, _ := impl.LiftIdeal(r, ideal, small)
			lifted = append(lifted, large)
			got, ok := impl.PushIdeal(r, ideal, large)
			isThatIdeal(t, "PushIdeal of what was lifted", q, got, ok, small)
			if len(large) != len(small)*len(ideal) || impl.IsPrimeIdeal(r, large) != impl.IsPrimeIdeal(q, small) {
				t.Errorf("%v is lifted by %v in %s to %v", small, ideal, impl.FormatRing(r), large)
			}
		}
		for _, other := range impl.AllIdeals(r) {
			if hasEach(other, ideal) {
				above = append(above, other)
			}
			pushed, _ := impl.PushIdeal(r, ideal, other)
			got, ok := impl.LiftIdeal(r, ideal, pushed)
			sum, _ := impl.SumIdeal(r, ideal, other)
			isThatIdeal(t, "LiftIdeal of what was pushed", r, got, ok, sum)
		}
		slices.SortFunc(lifted, slices.Compare)
		slices.SortFunc(above, slices.Compare)
		areLists(t, "the ideals above "+show(ideal...), r, lifted, true, above)
	})
}

// TestQuotientsOfQuotients checks that the quotient by one ideal, and then by the classes of another one, is the quotient by the sum of both.
func TestQuotientsOfQuotients(t *testing.T) {
	eachIdeal(func(r impl.Ring, ideal []int) {
		q, names := quotientBy(t, r, ideal)
		for _, other := range impl.AllIdeals(r) {
			pushed, _ := impl.PushIdeal(r, ideal, other)
			sum, _ := impl.SumIdeal(r, ideal, other)
			twice, then := quotientBy(t, q, pushed)
			once, want := quotientBy(t, r, sum)
			isRing(t, "the quotient of the quotient", twice, true, once)
			var got []int
			for a := range r.Size {
				got = append(got, then[names[a]])
			}
			isList(t, "the classes of the classes", r, got, want)
		}
	})
}

func TestQuotientIsField(t *testing.T) {
	eachIdeal(func(r impl.Ring, ideal []int) {
		q, _ := quotientBy(t, r, ideal)
		if got, want := impl.IsField(q), impl.IsMaximalIdeal(r, ideal); got != want {
			t.Errorf("the quotient of %s by %v: IsField = %v, but IsMaximalIdeal = %v", impl.FormatRing(r), ideal, got, want)
		}
	})
}

// TestReducedRing checks that no nilpotents are left, and that rings without them stay as they are.
func TestReducedRing(t *testing.T) {
	for _, r := range idealRings() {
		classes := classesBy(r, chosen(r, func(a int) bool { return vanishes(r, a) }))
		q, names, ok := impl.ReducedRing(r)
		isRing(t, "ReducedRing", q, ok, ofClasses(r, classes))
		for a, name := range names {
			if name != classWith(classes, a) {
				t.Errorf("ReducedRing %s: the class of %d is %d", impl.FormatRing(r), a, name)
			}
		}
		isList(t, "the nilpotents that are left", q, impl.NilpotentsOf(q), []int{0})
		again, names, ok := impl.ReducedRing(q)
		isRing(t, "ReducedRing of one without nilpotents", again, ok, q)
		isList(t, "ReducedRing of one without nilpotents: names", q, names, numbersBelow(q.Size))
	}
}

func TestReducedRingOfKnownRings(t *testing.T) {
	for text, want := range map[string]string{
		"1": "1", "7": "7", "8": "2", "9": "3", "12": "6", "15": "15", "16": "2", "2x4": "2x2", "4x4": "2x2", "2x2x2x2": "2x2x2x2",
		"2[1,1]": "2[1,1]", "2[0,0]": "2", "2[0,0,0,0]": "2", "4[1,1]": "2[1,1]", "2[1,1]x4": "2[1,1]x2", "3[0,0]": "3", "3[0,1]": "3[0,1]",
	} {
		q, names, ok := impl.ReducedRing(made(t, text))
		isRing(t, "ReducedRing of "+text, q, ok, made(t, want))
		if text == want {
			isList(t, "ReducedRing: names", q, names, numbersBelow(q.Size))
		}
	}
}

func TestResidueSizes(t *testing.T) {
	for _, r := range idealRings() {
		ideals := triedIdeals(r)
		var want []int
		product := 1
		for _, ideal := range ideals {
			if isMaximalOf(ideals, ideal) {
				size := len(classesBy(r, ideal))
				want = append(want, size)
				product *= size
			}
		}
		isList(t, "ResidueSizes", r, impl.ResidueSizes(r), want)
		if reduced, _, _ := impl.ReducedRing(r); reduced.Size != product {
			t.Errorf("%s has the residue sizes %v, but %d elements without nilpotents", impl.FormatRing(r), want, reduced.Size)
		}
	}
}

func TestResidueSizesOfKnownRings(t *testing.T) {
	for text, want := range map[string][]int{
		"1": nil, "2": {2}, "7": {7}, "16": {2}, "9": {3}, "12": {3, 2}, "6": {3, 2}, "10": {5, 2}, "15": {5, 3}, "14": {7, 2},
		"2x2": {2, 2}, "2x2x2x2": {2, 2, 2, 2}, "2x2x3": {3, 2, 2}, "4x3": {3, 2}, "2[1,1]": {4}, "2[0,1]": {2, 2}, "4[1,1]": {4}, "2[1,1]x4": {4, 2},
		"2[1,1]x2[1,1]": {4, 4}, "2[0,0,0,0]": {2}, "2[1,1,0]x2": {8, 2}, "2[1,1,0,0]": {16}, "3[1,0]": {9},
	} {
		isList(t, "ResidueSizes of "+text, made(t, text), impl.ResidueSizes(made(t, text)), want)
	}
}

func TestQuotientsOfRingOfOne(t *testing.T) {
	one, zero := remainders(1), []int{0}
	q, names, ok := impl.QuotientRing(one, zero)
	isRing(t, "QuotientRing", q, ok, one)
	isList(t, "QuotientRing: names", one, names, zero)
	q, names, ok = impl.ReducedRing(one)
	isRing(t, "ReducedRing", q, ok, one)
	isList(t, "ReducedRing: names", one, names, zero)
	classes, ok := impl.ClassesOf(one, zero)
	areLists(t, "ClassesOf", one, classes, ok, [][]int{{0}})
	got, ok := impl.LiftIdeal(one, zero, zero)
	isThatIdeal(t, "LiftIdeal", one, got, ok, zero)
	got, ok = impl.PushIdeal(one, zero, zero)
	isThatIdeal(t, "PushIdeal", one, got, ok, zero)
	if sizes := impl.ResidueSizes(one); len(sizes) != 0 {
		t.Errorf("ResidueSizes = %v", sizes)
	}
}

// refusesQuotient checks what the functions return for a list that is no ideal, by which there are no classes; good is an ideal if the ring is valid.
func refusesQuotient(t *testing.T, what string, r impl.Ring, list, good []int) {
	t.Helper()
	what += " " + show(list...)
	q, names, ok := impl.QuotientRing(r, list)
	isNoQuotient(t, what+": QuotientRing", q, names, ok)
	if classes, ok := impl.ClassesOf(r, list); len(classes) != 0 || ok {
		t.Errorf("%s: ClassesOf = %v, %v", what, classes, ok)
	}
	for _, other := range [][]int{good, list, {0}, nil} {
		got, ok := impl.LiftIdeal(r, list, other)
		isNoList(t, what+": LiftIdeal of "+show(other...), got, ok)
		got, ok = impl.PushIdeal(r, list, other)
		isNoList(t, what+": PushIdeal of "+show(other...), got, ok)
	}
	got, ok := impl.PushIdeal(r, good, list)
	isNoList(t, what+": PushIdeal by an ideal", got, ok)
}

func TestQuotientsByNoIdeals(t *testing.T) {
	eachNoIdeal(func(what string, r impl.Ring, list, good []int) { refusesQuotient(t, what, r, list, good) })
}

// TestLiftOfNoIdeals has lists that are no ideals of the quotient, ideals of other rings among them.
func TestLiftOfNoIdeals(t *testing.T) {
	for _, c := range []struct {
		text  string
		ideal []int
		above [][]int
	}{
		{"12", []int{0, 4, 8}, [][]int{
			nil, {}, {1}, {2}, {0, 1}, {0, 3}, {0, 1, 2}, {0, 2, 3}, {2, 0}, {0, 0}, {0, 2, 2}, {3, 2, 1, 0}, {0, 0, 2}, {-1}, {-2, 0, 2}, {0, 4}, {4}, numbersBelow(5), {0, math.MaxInt}, {math.MinInt},
			{0, 6}, {0, 4, 8}, {0, 3, 6, 9}, {0, 2, 4, 6, 8, 10}, numbersBelow(12), // of the ring
			{0, 2, 4}, {0, 2, 4, 6}, numbersBelow(3), numbersBelow(16), // of the integers by 6, 8, 3 and 16
		}},
		{"12", []int{0, 6}, [][]int{{0, 2}, {0, 6}, {0, 4, 8}, {0, 3, 6, 9}, {0, 1, 2}, numbersBelow(4), numbersBelow(12), {0, 3, 6}}},
		{"12", numbersBelow(12), [][]int{nil, {1}, {0, 1}, {0, 6}, numbersBelow(12), {0, 0}, {-1}}},
		{"2x2x2", []int{0, 1}, [][]int{{0, 3}, {0, 4}, {0, 1, 4, 5}, numbersBelow(8)}},
		{"2[0,0,0,0]", []int{0, 8}, [][]int{{0, 2}, {0, 8}, {0, 2, 4}, {0, 4, 8, 12}, {0, 1, 2, 3}, numbersBelow(16)}},
	} {
		r := made(t, c.text)
		for _, above := range c.above {
			got, ok := impl.LiftIdeal(r, c.ideal, above)
			isNoList(t, c.text+": LiftIdeal by "+show(c.ideal...)+" of "+show(above...), got, ok)
		}
	}
	eachIdeal(func(r impl.Ring, ideal []int) {
		size := r.Size / len(ideal)
		for _, above := range [][]int{nil, {0, 0}, {0, size}, numbersBelow(size + 1), append([]int{-1}, numbersBelow(size)...)} {
			got, ok := impl.LiftIdeal(r, ideal, above)
			isNoList(t, impl.FormatRing(r)+": LiftIdeal by "+show(ideal...)+" of "+show(above...), got, ok)
		}
	})
}

// TestPushOfNoIdeals has ideals of quotients and of other rings that are none of the ring.
func TestPushOfNoIdeals(t *testing.T) {
	for _, other := range [][]int{{0, 2}, {0, 3}, {0, 2, 4}, {0, 1}, {0, 1, 2, 3}, numbersBelow(6), {0, 5}, {0, 4, 8, 12}, numbersBelow(13), numbersBelow(16)} {
		for _, ideal := range [][]int{{0}, {0, 6}, {0, 4, 8}, {0, 2, 4, 6, 8, 10}, numbersBelow(12)} {
			got, ok := impl.PushIdeal(remainders(12), ideal, other)
			isNoList(t, "PushIdeal by "+show(ideal...)+" of "+show(other...), got, ok)
		}
	}
}

func TestQuotientsOfBadRings(t *testing.T) {
	for name, r := range badRings() {
		q, names, ok := impl.ReducedRing(r)
		isNoQuotient(t, name+": ReducedRing", q, names, ok)
		if sizes := impl.ResidueSizes(r); len(sizes) != 0 {
			t.Errorf("%s: ResidueSizes = %v", name, sizes)
		}
		for _, list := range [][]int{nil, {0}, {0, 2}, {2, 0}, {-1}, {4}, {16}, numbersBelow(4), numbersBelow(17), {math.MinInt}, {math.MaxInt}} {
			refusesQuotient(t, name, r, list, []int{0})
		}
	}
}

// TestQuotientsMemory checks that arguments, and what lies behind their ends, stay as they are, and that results have memory of their own.
func TestQuotientsMemory(t *testing.T) {
	plain := remainders(12)
	sums, sumsKept := guarded(plain.Sums)
	products, productsKept := guarded(plain.Products)
	ideal, idealKept := guarded([]int{0, 4, 8})
	zero, zeroKept := guarded([]int{0})
	above, aboveKept := guarded([]int{0, 2})
	kept := func() bool { return sumsKept() && productsKept() && idealKept() && zeroKept() && aboveKept() }
	r := impl.Ring{Size: 12, One: 1, Sums: sums, Products: products}
	for name, call := range map[string]func() (impl.Ring, []int, bool){
		"QuotientRing":      func() (impl.Ring, []int, bool) { return impl.QuotientRing(r, ideal) },
		"QuotientRing by 0": func() (impl.Ring, []int, bool) { return impl.QuotientRing(r, zero) },
		"ReducedRing":       func() (impl.Ring, []int, bool) { return impl.ReducedRing(r) },
	} {
		first, firstNames, _ := call()
		again, names, ok := call()
		want, wantNames := copied(again), slices.Clone(names)
		spoil(first)
		overwrite(firstNames)
		if !ok || !impl.SameRing(again, want) || !slices.Equal(names, wantNames) || !kept() {
			t.Errorf("%s: memory is shared or changed", name)
		}
		overwrite(again.Sums)
		if !slices.Equal(again.Products, want.Products) || !slices.Equal(names, wantNames) {
			t.Errorf("%s: the tables and the names share memory", name)
		}
		overwrite(again.Products)
		if !slices.Equal(names, wantNames) || !kept() {
			t.Errorf("%s: the tables and the names share memory", name)
		}
	}
	for name, call := range map[string]func() []int{
		"LiftIdeal":      func() []int { list, _ := impl.LiftIdeal(r, ideal, above); return list },
		"LiftIdeal by 0": func() []int { list, _ := impl.LiftIdeal(r, zero, ideal); return list },
		"PushIdeal":      func() []int { list, _ := impl.PushIdeal(r, ideal, zero); return list },
		"PushIdeal by 0": func() []int { list, _ := impl.PushIdeal(r, zero, ideal); return list },
		"ResidueSizes":   func() []int { return impl.ResidueSizes(r) },
	} {
		first, again := call(), call()
		want := slices.Clone(again)
		overwrite(first)
		if len(again) == 0 || !slices.Equal(again, want) || !kept() {
			t.Errorf("%s: memory is shared or changed", name)
		}
	}
	first, _ := impl.ClassesOf(r, ideal)
	again, ok := impl.ClassesOf(r, ideal)
	for i, class := range first {
		overwrite(class)
		if slices.ContainsFunc(first[i+1:], func(other []int) bool { return slices.Contains(other, -9) }) {
			t.Errorf("ClassesOf: class %d shares its memory with another one", i)
		}
	}
	areLists(t, "ClassesOf", plain, again, ok, classesBy(plain, []int{0, 4, 8}))
	if !kept() {
		t.Error("an argument has changed")
	}
}
