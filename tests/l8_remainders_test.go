package tests

import (
	"math"
	"slices"
	"sync"
	"testing"

	"loop.example/finiterings/impl"
)

// eachTwoIdeals visits all pairs of ideals of all rings.
func eachTwoIdeals(visit func(r impl.Ring, a, b []int)) {
	for _, r := range idealRings() {
		ideals := impl.AllIdeals(r)
		for _, a := range ideals {
			for _, b := range ideals {
				visit(r, a, b)
			}
		}
	}
}

// areComaximalIn reports whether each element is the sum of one of a and one of b.
func areComaximalIn(r impl.Ring, a, b []int) bool {
	return len(sumsOf(r, a, b)) == r.Size
}

// solutionsIn returns the elements that are, for each ideal, the sum of the value with the same index and an element of it.
func solutionsIn(r impl.Ring, ideals [][]int, values []int) []int {
	return chosen(r, func(x int) bool {
		for i, ideal := range ideals {
			if !slices.ContainsFunc(ideal, func(c int) bool { return sumIn(r, values[i], c) == x }) {
				return false
			}
		}
		return true
	})
}

// areSolved checks that AllSolutions returns some elements and true, and SolveTogether the first of them, -1 if there is none.
func areSolved(t *testing.T, r impl.Ring, ideals [][]int, values []int, want []int) {
	t.Helper()
	got, ok := impl.AllSolutions(r, ideals, values)
	if !ok || !slices.Equal(got, want) {
		t.Errorf("AllSolutions in %s by %v of %v = %v, %v, want %v", impl.FormatRing(r), ideals, values, got, ok, want)
	}
	least := -1
	if len(want) > 0 {
		least = want[0]
	}
	if got := impl.SolveTogether(r, ideals, values); got != least {
		t.Errorf("SolveTogether in %s by %v of %v = %d, want %d", impl.FormatRing(r), ideals, values, got, least)
	}
}

// areNotSolved checks that AllSolutions returns an empty slice and false, and SolveTogether -1.
func areNotSolved(t *testing.T, what string, r impl.Ring, ideals [][]int, values []int) {
	t.Helper()
	got, ok := impl.AllSolutions(r, ideals, values)
	isNoList(t, what+": AllSolutions of "+show(values...), got, ok)
	if got := impl.SolveTogether(r, ideals, values); got != -1 {
		t.Errorf("%s: SolveTogether by %v of %v = %d", what, ideals, values, got)
	}
}

// isBezout checks that BezoutOf returns two elements and true, and AreComaximal true.
func isBezout(t *testing.T, r impl.Ring, a, b []int, x, y int) {
	t.Helper()
	gotX, gotY, ok := impl.BezoutOf(r, a, b)
	if gotX != x || gotY != y || !ok || !impl.AreComaximal(r, a, b) {
		t.Errorf("BezoutOf %v and %v in %s = %d, %d, %v, want %d and %d; AreComaximal = %v", a, b, impl.FormatRing(r), gotX, gotY, ok, x, y, impl.AreComaximal(r, a, b))
	}
}

// isNoBezout checks that BezoutOf returns 0, 0 and false, and AreComaximal false.
func isNoBezout(t *testing.T, what string, r impl.Ring, a, b []int) {
	t.Helper()
	x, y, ok := impl.BezoutOf(r, a, b)
	if x != 0 || y != 0 || ok || impl.AreComaximal(r, a, b) {
		t.Errorf("%s: BezoutOf %v and %v = %d, %d, %v; AreComaximal = %v", what, a, b, x, y, ok, impl.AreComaximal(r, a, b))
	}
}

// areNoComponents checks that ComponentsOf returns no ideals and false.
func areNoComponents(t *testing.T, what string, r impl.Ring, a []int) {
	t.Helper()
	if got, ok := impl.ComponentsOf(r, a); len(got) != 0 || ok {
		t.Errorf("%s: ComponentsOf %v = %v, %v", what, a, got, ok)
	}
}

func TestComaximalAndBezout(t *testing.T) {
	eachTwoIdeals(func(r impl.Ring, a, b []int) {
		if !areComaximalIn(r, a, b) {
			isNoBezout(t, impl.FormatRing(r), r, a, b)
			return
		}
		for _, x := range a {
			if at := slices.IndexFunc(b, func(y int) bool { return sumIn(r, x, y) == r.One }); at >= 0 {
				isBezout(t, r, a, b, x, b[at])
				return
			}
		}
		t.Errorf("no sum of elements of %v and %v in %s is One", a, b, impl.FormatRing(r))
	})
}

func TestBezoutOfKnownRings(t *testing.T) {
	for _, c := range []struct {
		text string
		a, b []int
		x, y int
	}{
		{"12", []int{0, 3, 6, 9}, []int{0, 4, 8}, 9, 4},
		{"12", []int{0, 4, 8}, []int{0, 3, 6, 9}, 4, 9},
		{"12", []int{0, 2, 4, 6, 8, 10}, []int{0, 3, 6, 9}, 4, 9},
		{"12", []int{0, 3, 6, 9}, []int{0, 2, 4, 6, 8, 10}, 3, 10}, // 9 would do as well
		{"12", numbersBelow(12), []int{0, 6}, 1, 0},
		{"12", []int{0, 6}, numbersBelow(12), 0, 1},
		{"6", []int{0, 2, 4}, []int{0, 3}, 4, 3},
		{"15", []int{0, 5, 10}, []int{0, 3, 6, 9, 12}, 10, 6},
		{"2x2", []int{0, 1}, []int{0, 2}, 1, 2},
		{"2x4", []int{0, 4}, []int{0, 1, 2, 3}, 4, 1},
		{"2[0,1]", []int{0, 2}, []int{0, 3}, 2, 3},
		{"2[1,1]", []int{0}, numbersBelow(4), 0, 1},
	} {
		isBezout(t, made(t, c.text), c.a, c.b, c.x, c.y)
	}
	for _, c := range []struct {
		text string
		a, b []int
	}{
		{"12", []int{0, 2, 4, 6, 8, 10}, []int{0, 4, 8}},
		{"12", []int{0, 3, 6, 9}, []int{0, 6}},
		{"12", []int{0, 4, 8}, []int{0, 6}}, // whose sum has all even numbers
		{"12", []int{0}, []int{0}},
		{"12", []int{0, 3, 6, 9}, []int{0, 3, 6, 9}},
		{"16", []int{0, 2, 4, 6, 8, 10, 12, 14}, []int{0, 4, 8, 12}},
		{"2x2x2", []int{0, 1}, []int{0, 2}},
		{"2[1,1]", []int{0}, []int{0}},
	} {
		isNoBezout(t, c.text, made(t, c.text), c.a, c.b)
	}
}

// remainderRings returns all the rings for ideals that are small, and some of the large ones.
func remainderRings(t *testing.T) []impl.Ring {
	rings := slices.DeleteFunc(idealRings(), func(r impl.Ring) bool { return r.Size > 8 })
	for _, text := range []string{"9", "10", "12", "14", "15", "16", "3x3", "4x4", "2x2x4", "2[1,1]x4", "3[2,0]", "4[2,0]", "2[0,0,0,0]"} {
		rings = append(rings, made(t, text), turned(made(t, text)))
	}
	return rings
}

// TestAllSolutions tries all classes by two ideals, each with its least and its last element as the value.
func TestAllSolutions(t *testing.T) {
	for _, r := range remainderRings(t) {
		ideals := impl.AllIdeals(r)
		for _, a := range ideals {
			for x := range r.Size {
				areSolved(t, r, [][]int{a}, []int{x}, solutionsIn(r, [][]int{a}, []int{x}))
			}
			for _, b := range ideals {
				two := [][]int{a, b}
				for _, first := range classesBy(r, a) {
					for _, second := range classesBy(r, b) {
						values := []int{first[0], second[len(second)-1]}
						areSolved(t, r, two, values, solutionsIn(r, two, values))
					}
				}
			}
		}
	}
}

// TestSolutionsByAnyValue takes all values for two ideals of some rings; just its class tells what a value asks for.
func TestSolutionsByAnyValue(t *testing.T) {
	for _, r := range []impl.Ring{remainders(6), pairs(2, 4), turned(pairs(2, 4)), flatRing(3), mixedRing(2), remainders(12)} {
		ideals := impl.AllIdeals(r)
		for _, a := range ideals {
			for _, b := range ideals {
				for x := range r.Size {
					for y := range r.Size {
						areSolved(t, r, [][]int{a, b}, []int{x, y}, solutionsIn(r, [][]int{a, b}, []int{x, y}))
					}
				}
			}
		}
	}
}

// TestRemaindersOfIntegers has the ideals of divisors, by which numbers are in the same class if they have the same remainder.
func TestRemaindersOfIntegers(t *testing.T) {
	for n := 1; n <= impl.MaxSize; n++ {
		r := remainders(n)
		divisors := slices.DeleteFunc(numbersBelow(n+1), func(d int) bool { return d == 0 || n%d != 0 })
		for _, d := range divisors {
			for _, e := range divisors {
				two := [][]int{multiplesBelow(n, d), multiplesBelow(n, e)}
				if got, want := impl.AreComaximal(r, two[0], two[1]), greatestDivisor(d, e) == 1; got != want {
					t.Errorf("by %d: AreComaximal of the ideals of %d and %d = %v", n, d, e, got)
				}
				for x := range d {
					for y := range e {
						want := chosen(r, func(a int) bool { return a%d == x && a%e == y })
						areSolved(t, r, two, []int{x, y}, want)
						areSolved(t, r, two, []int{x + (n/d-1)*d, y + (n/e-1)*e}, want) // the last numbers with these remainders
					}
				}
			}
		}
	}
}

func TestSolutionsOfKnownRings(t *testing.T) {
	even, three, four, six := []int{0, 2, 4, 6, 8, 10}, []int{0, 3, 6, 9}, []int{0, 4, 8}, []int{0, 6}
	for _, c := range []struct {
		text   string
		ideals [][]int
		values []int
		want   []int
	}{
		{"12", [][]int{four, three}, []int{1, 2}, []int{5}},
		{"12", [][]int{three, four}, []int{2, 1}, []int{5}},
		{"12", [][]int{four, three}, []int{9, 11}, []int{5}},
		{"12", [][]int{even, three}, []int{1, 0}, []int{3, 9}},
		{"12", [][]int{even, three, four}, []int{1, 0, 3}, []int{3}},
		{"12", [][]int{even, four, four, even}, []int{1, 3, 7, 5}, []int{3, 7, 11}},
		{"12", [][]int{six}, []int{10}, []int{4, 10}},
		{"12", [][]int{{0}}, []int{10}, []int{10}},
		{"12", [][]int{{0}, even}, []int{10, 0}, []int{10}},
		{"12", [][]int{six, four}, []int{2, 4}, []int{8}}, // no comaximal ideals, but the values differ by a sum
		{"15", [][]int{{0, 5, 10}, {0, 3, 6, 9, 12}}, []int{3, 2}, []int{8}},
		{"2x2x2", [][]int{{0, 1, 2, 3}, {0, 1, 4, 5}, {0, 2, 4, 6}}, []int{4, 0, 1}, []int{5}},
		{"2x2x2", [][]int{{0, 1, 2, 3}, {0, 2, 4, 6}}, []int{4, 1}, []int{5, 7}},
		{"2[0,1]", [][]int{{0, 2}, {0, 3}}, []int{1, 0}, []int{3}},
		{"2[1,1]", [][]int{{0}, numbersBelow(4)}, []int{3, 2}, []int{3}},
		{"4x4", [][]int{{0, 1, 2, 3}, {0, 4, 8, 12}}, []int{8, 3}, []int{11}},
	} {
		areSolved(t, made(t, c.text), c.ideals, c.values, c.want)
	}
}

// eachComaximal visits all lists of different ideals of which each two are comaximal: some ideals, and more of others.
func eachComaximal(r impl.Ring, ideals, others [][]int, visit func(ideals [][]int)) {
	visit(ideals)
	for i, other := range others {
		if !slices.ContainsFunc(ideals, func(a []int) bool { return !areComaximalIn(r, a, other) }) {
			eachComaximal(r, append(slices.Clone(ideals), other), others[i+1:], visit)
		}
	}
}

// TestComaximalRemainders checks P8: for comaximal ideals, of which there may be several, each choice of classes has an element, which is one for all their classes by the meet of the ideals, and no two choices have the same.
func TestComaximalRemainders(t *testing.T) {
	for _, r := range idealRings() {
		eachComaximal(r, nil, impl.AllIdeals(r), func(ideals [][]int) {
			meet, product := numbersBelow(r.Size), numbersBelow(r.Size)
			var counts []impl.Ring // with as many elements as there are classes
			for _, ideal := range ideals {
				meet, _ = impl.MeetIdeal(r, meet, ideal)
				product, _ = impl.ProductIdeal(r, product, ideal)
				counts = append(counts, impl.Ring{Size: r.Size / len(ideal)})
			}
			isList(t, "the product of comaximal ideals", r, product, meet)
			together := classesBy(r, meet)
			var found []int
			eachParts(counts, func(places []int) {
				var values []int
				for i, place := range places {
					class := classesBy(r, ideals[i])[place]
					values = append(values, class[len(class)-1])
				}
				x := impl.SolveTogether(r, ideals, values)
				if x < 0 {
					t.Fatalf("SolveTogether in %s by %v of %v = %d", impl.FormatRing(r), ideals, values, x)
				}
				areSolved(t, r, ideals, values, together[classWith(together, x)])
				found = append(found, classWith(together, x))
			})
			slices.Sort(found)
			isList(t, "the classes by the meet", r, found, numbersBelow(len(together)))
		})
	}
}

// TestRemaindersOfAnyIdeals checks that values have an element if and only if their difference is in the sum of both ideals, so that 0 and One have one just by comaximal ideals.
func TestRemaindersOfAnyIdeals(t *testing.T) {
	eachTwoIdeals(func(r impl.Ring, a, b []int) {
		sums := sumsOf(r, a, b)
		for _, difference := range []int{r.One, 1 % r.Size, r.Size - 1} {
			for _, y := range []int{0, r.Size - 1} {
				x := sumIn(r, y, difference)
				if got, want := impl.SolveTogether(r, [][]int{a, b}, []int{x, y}) >= 0, slices.Contains(sums, difference); got != want {
					t.Errorf("by %v and %v in %s: %d and %d have an element: %v", a, b, impl.FormatRing(r), x, y, got)
				}
			}
		}
	})
}

func TestSolutionsOfNoIdeals(t *testing.T) {
	for _, r := range idealRings() {
		areSolved(t, r, nil, nil, numbersBelow(r.Size))
		areSolved(t, r, [][]int{}, []int{}, numbersBelow(r.Size))
	}
}

// TestContradictions has remainders that no element has together: the slice is empty, but true is returned.
func TestContradictions(t *testing.T) {
	even, three, four, six := []int{0, 2, 4, 6, 8, 10}, []int{0, 3, 6, 9}, []int{0, 4, 8}, []int{0, 6}
	for _, c := range []struct {
		ideals [][]int
		values []int
	}{
		{[][]int{even, four}, []int{0, 1}},
		{[][]int{four, even}, []int{1, 0}},
		{[][]int{four, six}, []int{0, 1}},
		{[][]int{even, even}, []int{0, 1}},
		{[][]int{{0}, {0}}, []int{3, 4}},
		{[][]int{{0}, numbersBelow(12), four}, []int{3, 0, 4}},
		{[][]int{even, three, four}, []int{1, 2, 2}}, // the last one contradicts the first one only
		{[][]int{three, four, three}, []int{1, 2, 2}},
		{[][]int{{0}, three}, []int{5, 3}},
	} {
		areSolved(t, remainders(12), c.ideals, c.values, nil)
	}
	for _, r := range idealRings() {
		for _, ideal := range impl.AllIdeals(r) {
			for x := range r.Size {
				var want []int
				if slices.Contains(ideal, x) {
					want = ideal
				}
				areSolved(t, r, [][]int{ideal, ideal}, []int{x, 0}, want)
			}
		}
	}
}

// TestRemaindersByWholeRing checks that the whole ring asks for nothing, is comaximal with each ideal, and has no components.
func TestRemaindersByWholeRing(t *testing.T) {
	eachIdeal(func(r impl.Ring, ideal []int) {
		whole, some := numbersBelow(r.Size), []int{0, r.One, r.Size - 1}
		isBezout(t, r, ideal, whole, 0, r.One)
		for _, x := range whole {
			if y := chosen(r, func(y int) bool { return sumIn(r, x, y) == r.One })[0]; slices.Contains(ideal, y) {
				isBezout(t, r, whole, ideal, x, y)
				break
			}
		}
		for _, x := range some {
			for _, value := range some {
				areSolved(t, r, [][]int{whole, ideal}, []int{value, x}, solutionsIn(r, [][]int{ideal}, []int{x}))
			}
		}
	})
	for _, r := range idealRings() {
		whole := numbersBelow(r.Size)
		for _, value := range whole {
			areSolved(t, r, [][]int{whole}, []int{value}, whole)
			areSolved(t, r, [][]int{whole, whole}, []int{value, 0}, whole)
		}
		got, ok := impl.ComponentsOf(r, whole)
		areLists(t, "ComponentsOf the whole ring", r, got, ok, nil)
	}
}

// TestManyRemainders has more ideals than there are elements, the same ones again and again.
func TestManyRemainders(t *testing.T) {
	for _, r := range []impl.Ring{remainders(12), pairs(4, 4), flatRing(4), remainders(1)} {
		ideals := impl.AllIdeals(r)
		last := r.Size - 1
		for _, count := range []int{16, 17, 18, 100, 2000} {
			var many [][]int
			for i := range count {
				many = append(many, ideals[i%len(ideals)])
			}
			values := slices.Repeat([]int{last}, count)
			areSolved(t, r, many, values, []int{last})
			areNotSolved(t, "one value less", r, many, values[:count-1])
			areNotSolved(t, "one ideal less", r, many[:count-1], values)
			values[count-1] = sumIn(r, last, r.One) // only by the last ideal
			areSolved(t, r, many, values, solutionsIn(r, many, values))
		}
	}
}

// componentsIn returns, for each maximal ideal that has all elements of an ideal, the sum of that ideal and a power of the maximal one.
func componentsIn(r impl.Ring, a []int) [][]int {
	ideals := triedIdeals(r)
	var components [][]int
	for _, maximal := range ideals {
		if !isMaximalOf(ideals, maximal) || !hasEach(maximal, a) {
			continue
		}
		power := maximal
		for range r.Size {
			power = sumsOfProducts(r, power, maximal)
		}
		components = append(components, sumsOf(r, a, power))
	}
	return components
}

func TestComponentsOf(t *testing.T) {
	for _, r := range remainderRings(t) {
		for _, ideal := range impl.AllIdeals(r) {
			got, ok := impl.ComponentsOf(r, ideal)
			areLists(t, "ComponentsOf "+show(ideal...), r, got, ok, componentsIn(r, ideal))
		}
	}
}

// TestComponentsTogether checks that an ideal is the product and the meet of its components, that these are ideals, each two of them comaximal, and that the quotients by them are as many and as large as the parts of that by the ideal, and local.
func TestComponentsTogether(t *testing.T) {
	eachIdeal(func(r impl.Ring, ideal []int) {
		components, ok := impl.ComponentsOf(r, ideal)
		product, meet := numbersBelow(r.Size), numbersBelow(r.Size)
		var sizes, parts []int
		for i, a := range components {
			q, _ := quotientBy(t, r, a)
			sizes = append(sizes, q.Size)
			if !impl.IsLocal(q) {
				t.Errorf("ComponentsOf %v in %s has %v, by which the quotient is not local", ideal, impl.FormatRing(r), a)
			}
			for _, b := range components[i+1:] {
				if !areComaximalIn(r, a, b) {
					t.Errorf("ComponentsOf %v in %s has %v and %v, which are not comaximal", ideal, impl.FormatRing(r), a, b)
				}
			}
			product, _ = impl.ProductIdeal(r, product, a)
			meet, _ = impl.MeetIdeal(r, meet, a)
		}
		isThatIdeal(t, "the product of the components of "+show(ideal...), r, product, ok, ideal)
		isList(t, "the meet of the components of "+show(ideal...), r, meet, ideal)
		q, _ := quotientBy(t, r, ideal)
		for _, part := range impl.SplitRing(q) {
			parts = append(parts, part.Size)
		}
		slices.Sort(sizes)
		slices.Sort(parts)
		isList(t, "the sizes by the components of "+show(ideal...), r, sizes, parts)
	})
}

func TestComponentsOfKnownRings(t *testing.T) {
	even, three, four := []int{0, 2, 4, 6, 8, 10}, []int{0, 3, 6, 9}, []int{0, 4, 8}
	for _, c := range []struct {
		text  string
		ideal []int
		want  [][]int
	}{
		{"12", []int{0}, [][]int{three, four}}, // in the order of the maximal ideals, of three and of two
		{"12", []int{0, 6}, [][]int{three, even}},
		{"12", four, [][]int{four}},
		{"12", three, [][]int{three}},
		{"12", even, [][]int{even}},
		{"12", numbersBelow(12), nil},
		{"6", []int{0}, [][]int{{0, 3}, {0, 2, 4}}},
		{"16", []int{0}, [][]int{{0}}},
		{"16", []int{0, 8}, [][]int{{0, 8}}},
		{"7", []int{0}, [][]int{{0}}},
		{"2x2x2", []int{0}, [][]int{{0, 1, 2, 3}, {0, 1, 4, 5}, {0, 2, 4, 6}}},
		{"2x2x2", []int{0, 1}, [][]int{{0, 1, 2, 3}, {0, 1, 4, 5}}},
		{"2x4", []int{0}, [][]int{{0, 1, 2, 3}, {0, 4}}},
		{"2x4", []int{0, 2}, [][]int{{0, 1, 2, 3}, {0, 2, 4, 6}}},
		{"2[1,1]", []int{0}, [][]int{{0}}},
		{"2[0,0,0,0]", []int{0}, [][]int{{0}}},
		{"2[0,0,0,0]", []int{0, 8}, [][]int{{0, 8}}},
		{"4x4", []int{0}, [][]int{{0, 1, 2, 3}, {0, 4, 8, 12}}},
		{"1", []int{0}, nil},
	} {
		r := made(t, c.text)
		got, ok := impl.ComponentsOf(r, c.ideal)
		areLists(t, "ComponentsOf "+show(c.ideal...), r, got, ok, c.want)
	}
	r, _ := impl.RenameRing(remainders(6), []int{0, 1, 5, 2, 3, 4}) // in which 2 has the ideal of 3, and 3 that of 2
	got, ok := impl.ComponentsOf(r, []int{0})
	areLists(t, "ComponentsOf 0", r, got, ok, [][]int{{0, 2}, {0, 3, 5}})
}

func TestSolveLinear(t *testing.T) {
	for _, r := range splitRings() {
		for a := range r.Size {
			for b := range r.Size {
				want := chosen(r, func(x int) bool { return sumIn(r, productIn(r, a, x), b) == 0 })
				isList(t, "SolveLinear "+show(a, b), r, impl.SolveLinear(r, a, b), want)
			}
		}
	}
}

// TestSolveLinearByKinds checks that there is just one element by a unit, all by 0, and otherwise, if there is one, a class by the elements whose product is 0.
func TestSolveLinearByKinds(t *testing.T) {
	for _, r := range idealRings() {
		for a := range r.Size {
			zeros := impl.SolveLinear(r, a, 0)
			for b := range r.Size {
				got := impl.SolveLinear(r, a, b)
				if inverse := impl.InverseOf(r, a); inverse >= 0 {
					isList(t, "SolveLinear "+show(a, b), r, got, []int{impl.Neg(r, productIn(r, inverse, b))})
				}
				if len(got) > 0 {
					isList(t, "SolveLinear "+show(a, b), r, got, solutionsIn(r, [][]int{zeros}, []int{got[0]}))
				}
			}
		}
	}
}

func TestSolveLinearOfKnownRings(t *testing.T) {
	for _, c := range []struct {
		text string
		a, b int
		want []int
	}{
		{"12", 4, 8, []int{1, 4, 7, 10}},
		{"12", 4, 4, []int{2, 5, 8, 11}},
		{"12", 4, 2, nil},
		{"12", 5, 2, []int{2}},
		{"12", 5, 1, []int{7}},
		{"12", 0, 0, numbersBelow(12)},
		{"12", 0, 6, nil},
		{"12", 6, 0, []int{0, 2, 4, 6, 8, 10}},
		{"12", 6, 6, []int{1, 3, 5, 7, 9, 11}},
		{"12", 1, 5, []int{7}},
		{"2[1,1]", 2, 3, []int{2}},
		{"2[1,1]", 2, 1, []int{3}},
		{"2x2", 1, 1, []int{1, 3}},
		{"2x2", 1, 2, nil},
		{"9", 3, 6, []int{1, 4, 7}},
		{"1", 0, 0, []int{0}},
	} {
		r := made(t, c.text)
		isList(t, "SolveLinear "+show(c.a, c.b), r, impl.SolveLinear(r, c.a, c.b), c.want)
	}
}

func TestRemaindersOfRingOfOne(t *testing.T) {
	one := remainders(1)
	isBezout(t, one, []int{0}, []int{0}, 0, 0)
	areSolved(t, one, nil, nil, []int{0})
	areSolved(t, one, [][]int{{0}}, []int{0}, []int{0})
	areSolved(t, one, [][]int{{0}, {0}}, []int{0, 0}, []int{0})
	areNotSolved(t, "one", one, [][]int{{0}}, []int{1})
	got, ok := impl.ComponentsOf(one, []int{0})
	areLists(t, "ComponentsOf 0", one, got, ok, nil)
	isList(t, "SolveLinear", one, impl.SolveLinear(one, 0, 0), []int{0})
	isList(t, "SolveLinear", one, impl.SolveLinear(one, 0, 1), nil)
}

// refusesRemainders checks what the functions return for a list that is no ideal; good is an ideal if the ring is valid.
func refusesRemainders(t *testing.T, what string, r impl.Ring, list, good []int) {
	t.Helper()
	areNoComponents(t, what, r, list)
	for _, two := range [][][]int{{list, good}, {good, list}, {list, list}, {list, numbersBelow(r.Size % 20)}} {
		isNoBezout(t, what, r, two[0], two[1])
		for _, values := range [][]int{{0, 0}, {r.One, 0}, {0, r.One}} {
			areNotSolved(t, what, r, two, values)
		}
	}
	areNotSolved(t, what, r, [][]int{list}, []int{0})
	areNotSolved(t, what, r, [][]int{good, good, list, good}, []int{0, r.One, 0, 0}) // even if the others contradict each other
}

func TestRemaindersByNoIdeals(t *testing.T) {
	eachNoIdeal(func(what string, r impl.Ring, list, good []int) { refusesRemainders(t, what, r, list, good) })
}

func TestRemaindersOfNoElements(t *testing.T) {
	for _, r := range idealRings() {
		what := impl.FormatRing(r)
		whole := numbersBelow(r.Size)
		for _, a := range []int{-1, -r.Size, r.Size, r.Size + 1, 2 * r.Size, r.Size * r.Size, 16, 17, math.MaxInt, math.MinInt} {
			for _, ideal := range [][]int{{0}, whole} {
				areNotSolved(t, what, r, [][]int{ideal}, []int{a})
				areNotSolved(t, what, r, [][]int{ideal, {0}}, []int{0, a})
				areNotSolved(t, what, r, [][]int{ideal, {0}}, []int{a, 0})
				areNotSolved(t, what, r, [][]int{{0}, ideal, {0}}, []int{0, a, r.One})
			}
			for _, b := range []int{0, r.One, r.Size - 1, a} {
				isList(t, "SolveLinear "+show(a, b), r, impl.SolveLinear(r, a, b), nil)
				isList(t, "SolveLinear "+show(b, a), r, impl.SolveLinear(r, b, a), nil)
			}
		}
	}
}

// TestRemaindersOfOtherLengths has values that are fewer or more than the ideals.
func TestRemaindersOfOtherLengths(t *testing.T) {
	for _, r := range idealRings() {
		what := impl.FormatRing(r)
		ideals := impl.AllIdeals(r)
		for ideal := range 4 {
			for value := range 4 {
				some := slices.Repeat([][]int{ideals[len(ideals)-1]}, ideal)
				values := make([]int, value)
				if ideal != value {
					areNotSolved(t, what, r, some, values)
				} else {
					areSolved(t, r, some, values, numbersBelow(r.Size))
				}
			}
		}
		areNotSolved(t, what, r, ideals, make([]int, len(ideals)-1))
		areNotSolved(t, what, r, ideals, make([]int, len(ideals)+1))
		areNotSolved(t, what, r, nil, make([]int, 17))
		areNotSolved(t, what, r, [][]int{{0}}, slices.Repeat([]int{0}, 10000))
		areNotSolved(t, what, r, slices.Repeat([][]int{{0}}, 100), nil)
	}
}

func TestRemaindersOfBadRings(t *testing.T) {
	for name, r := range badRings() {
		areNotSolved(t, name, r, nil, nil)
		areNotSolved(t, name, r, [][]int{}, []int{})
		for _, list := range [][]int{nil, {0}, {0, 2}, {2, 0}, {-1}, {4}, {16}, numbersBelow(3), numbersBelow(4), numbersBelow(5), numbersBelow(16), numbersBelow(17), {math.MinInt}, {math.MaxInt}} {
			refusesRemainders(t, name, r, list, []int{0})
			refusesRemainders(t, name, r, list, numbersBelow(4))
		}
		for _, a := range []int{0, 1, 2, 3, 4, 15, 16, 17, -1, -4, r.One, r.Size, r.Size - 1, math.MaxInt, math.MinInt} {
			for _, b := range []int{0, 1, 3, a, r.One} {
				isList(t, name+": SolveLinear "+show(a, b), r, impl.SolveLinear(r, a, b), nil)
				isList(t, name+": SolveLinear "+show(b, a), r, impl.SolveLinear(r, b, a), nil)
			}
			areNotSolved(t, name, r, [][]int{{0}}, []int{a})
		}
	}
}

// TestRemaindersAgain calls the functions many times and at once, since neither other calls nor the order in which elements are tried may show in a result.
func TestRemaindersAgain(t *testing.T) {
	twelve, sixteen := remainders(12), pairs(4, 4)
	var calling sync.WaitGroup
	for range 8 {
		calling.Go(func() {
			for range 200 {
				areSolved(t, twelve, [][]int{{0, 4, 8}, {0, 3, 6, 9}}, []int{1, 2}, []int{5})
				areSolved(t, twelve, [][]int{{0, 2, 4, 6, 8, 10}}, []int{1}, []int{1, 3, 5, 7, 9, 11})
				areSolved(t, twelve, [][]int{{0, 2, 4, 6, 8, 10}, {0, 4, 8}}, []int{0, 1}, nil)
				areSolved(t, sixteen, nil, nil, numbersBelow(16))
				areNotSolved(t, "the zero value", impl.Ring{}, nil, nil)
				isBezout(t, twelve, []int{0, 3, 6, 9}, []int{0, 4, 8}, 9, 4)
			}
		})
	}
	calling.Wait()
}

// TestRemaindersMemory checks that arguments, and what lies behind their ends, stay as they are, and that results have memory of their own.
func TestRemaindersMemory(t *testing.T) {
	plain := remainders(12)
	sums, sumsKept := guarded(plain.Sums)
	products, productsKept := guarded(plain.Products)
	three, threeKept := guarded([]int{0, 3, 6, 9})
	four, fourKept := guarded([]int{0, 4, 8})
	values, valuesKept := guarded([]int{2, 1})
	memory := [][]int{three, four, {77}, {78}}
	kept := func() bool {
		isSame := slices.EqualFunc(memory, [][]int{{0, 3, 6, 9}, {0, 4, 8}, {77}, {78}}, slices.Equal)
		return isSame && sumsKept() && productsKept() && threeKept() && fourKept() && valuesKept()
	}
	r := impl.Ring{Size: 12, One: 1, Sums: sums, Products: products}
	for name, call := range map[string]func() []int{
		"AllSolutions":           func() []int { list, _ := impl.AllSolutions(r, memory[:2], values); return list },
		"AllSolutions by one":    func() []int { list, _ := impl.AllSolutions(r, memory[:1], []int{0}); return list },
		"AllSolutions by none":   func() []int { list, _ := impl.AllSolutions(r, memory[:0], values[:0]); return list },
		"SolveLinear":            func() []int { return impl.SolveLinear(r, 4, 8) },
		"SolveLinear of 0":       func() []int { return impl.SolveLinear(r, 0, 0) },
		"ComponentsOf, the only": func() []int { lists, _ := impl.ComponentsOf(r, three); return lists[0] },
	} {
		first, again := call(), call()
		want := slices.Clone(again)
		overwrite(first)
		if len(again) == 0 || !slices.Equal(again, want) || !kept() {
			t.Errorf("%s: memory is shared or changed", name)
		}
	}
	first, _ := impl.ComponentsOf(r, []int{0})
	again, ok := impl.ComponentsOf(r, []int{0})
	overwrite(first[0])
	isList(t, "the second component", plain, first[1], []int{0, 4, 8})
	overwrite(first[1])
	for i := range first[:cap(first)] {
		first[:cap(first)][i] = nil
	}
	areLists(t, "ComponentsOf", plain, again, ok, [][]int{{0, 3, 6, 9}, {0, 4, 8}})
	isBezout(t, r, three, four, 9, 4)
	if impl.SolveTogether(r, memory[:2], values) != 5 || !kept() {
		t.Error("an argument has changed")
	}
}
