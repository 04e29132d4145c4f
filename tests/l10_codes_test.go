package tests

import (
	"math"
	"slices"
	"strconv"
	"strings"
	"sync"
	"testing"

	"loop.example/finiterings/impl"
)

// vectorsIn returns all vectors of a length over a ring, in the order of their numbers.
func vectorsIn(r impl.Ring, n int) [][]int {
	var vectors [][]int
	for number := range powerOf(r.Size, n) {
		digits := numbersOf(number, r.Size, n)
		slices.Reverse(digits)
		vectors = append(vectors, digits)
	}
	return vectors
}

// placeOf returns the number of a vector.
func placeOf(r impl.Ring, v []int) int {
	place := 0
	for i, a := range v {
		place += a * powerOf(r.Size, len(v)-1-i)
	}
	return place
}

// plusMultiple returns the sum of a vector and the product of an element and another one.
func plusMultiple(r impl.Ring, v []int, a int, w []int) []int {
	sum := make([]int, len(v))
	for i := range v {
		sum[i] = sumIn(r, v[i], productIn(r, a, w[i]))
	}
	return sum
}

// spanIn returns the vectors that come from that of zeros when multiples of rows are added again and again.
func spanIn(r impl.Ring, n int, rows [][]int) [][]int {
	vectors := vectorsIn(r, n)
	reached := make([]bool, len(vectors))
	reached[0] = true
	for open := []int{0}; len(open) > 0; {
		v := vectors[open[0]]
		open = open[1:]
		for _, row := range rows {
			for a := range r.Size {
				if next := placeOf(r, plusMultiple(r, v, a, row)); !reached[next] {
					reached[next] = true
					open = append(open, next)
				}
			}
		}
	}
	return slices.DeleteFunc(vectors, func(v []int) bool { return !reached[placeOf(r, v)] })
}

// isSpanIn reports whether rows are those that come from them, in the order of their numbers.
func isSpanIn(r impl.Ring, n int, rows [][]int) bool {
	return slices.EqualFunc(rows, spanIn(r, n, rows), slices.Equal)
}

// dotIn returns the sum of the products of elements with the same index.
func dotIn(r impl.Ring, a, b []int) int {
	sum := 0
	for i := range a {
		sum = sumIn(r, sum, productIn(r, a[i], b[i]))
	}
	return sum
}

// valuesAt returns the products of a vector with all rows.
func valuesAt(r impl.Ring, rows [][]int, v []int) []int {
	values := []int{}
	for _, row := range rows {
		values = append(values, dotIn(r, v, row))
	}
	return values
}

// solvedIn returns all vectors whose products with rows are given elements.
func solvedIn(r impl.Ring, n int, rows [][]int, values []int) [][]int {
	return slices.DeleteFunc(vectorsIn(r, n), func(v []int) bool { return !slices.Equal(valuesAt(r, rows, v), values) })
}

// weightsIn returns, for each number from 0 to n, how many vectors have so many elements other than 0.
func weightsIn(n int, vectors [][]int) []int {
	weights := make([]int, n+1)
	for _, v := range vectors {
		zeros := slices.DeleteFunc(slices.Clone(v), func(a int) bool { return a != 0 })
		weights[n-len(zeros)]++
	}
	return weights
}

// distanceIn returns the least number from 1 on that is counted, 0 if there is none.
func distanceIn(weights []int) int {
	for weight, count := range weights {
		if weight > 0 && count > 0 {
			return weight
		}
	}
	return 0
}

// showRows returns the text of some rows.
func showRows(rows [][]int) string {
	var texts []string
	for _, row := range rows {
		texts = append(texts, show(row...))
	}
	return strings.Join(texts, " / ")
}

// areCoded checks what all functions of rows return, but for SolveSystem with other values than 0.
func areCoded(t *testing.T, r impl.Ring, n int, rows [][]int) {
	t.Helper()
	what := " of " + showRows(rows)
	span, ok := impl.SpanOf(r, n, rows)
	wantSpan := spanIn(r, n, rows)
	areLists(t, "SpanOf"+what, r, span, ok, wantSpan)
	dual, ok := impl.DualOf(r, n, rows)
	wantDual := solvedIn(r, n, rows, make([]int, len(rows)))
	areLists(t, "DualOf"+what, r, dual, ok, wantDual)
	solved, ok := impl.SolveSystem(r, n, rows, make([]int, len(rows)))
	areLists(t, "SolveSystem"+what, r, solved, ok, wantDual)
	weights, ok := impl.WeightsOf(r, n, rows)
	wantWeights := weightsIn(n, wantSpan)
	isPoly(t, "WeightsOf"+what, r, weights, ok, wantWeights)
	if got, want := impl.DistanceOf(r, n, rows), distanceIn(wantWeights); got != want {
		t.Errorf("DistanceOf%s in %s = %d, want %d", what, impl.FormatRing(r), got, want)
	}
	if got, want := impl.IsCode(r, n, rows), isSpanIn(r, n, rows); got != want {
		t.Errorf("IsCode%s in %s = %v", what, impl.FormatRing(r), got)
	}
}

// areNotCoded checks what all functions return for rows, or a length or a ring of which they are none; values are as many elements as there are rows, if there can be.
func areNotCoded(t *testing.T, what string, r impl.Ring, n int, rows [][]int, values []int) {
	t.Helper()
	what += " with the length " + strconv.Itoa(n)
	span, ok := impl.SpanOf(r, n, rows)
	areNoLists(t, what+": SpanOf", span, ok)
	dual, ok := impl.DualOf(r, n, rows)
	areNoLists(t, what+": DualOf", dual, ok)
	solved, ok := impl.SolveSystem(r, n, rows, values)
	areNoLists(t, what+": SolveSystem", solved, ok)
	weights, ok := impl.WeightsOf(r, n, rows)
	isNoList(t, what+": WeightsOf", weights, ok)
	if impl.DistanceOf(r, n, rows) != -1 || impl.IsCode(r, n, rows) {
		t.Errorf("%s: DistanceOf = %d, IsCode = %v", what, impl.DistanceOf(r, n, rows), impl.IsCode(r, n, rows))
	}
}

// areNoLists checks that a function has returned an empty slice and false.
func areNoLists(t *testing.T, what string, got [][]int, ok bool) {
	t.Helper()
	if len(got) != 0 || ok {
		t.Errorf("%s = %v, %v", what, got, ok)
	}
}

// eachSpace visits each length for which a ring has few enough vectors.
func eachSpace(rings []impl.Ring, visit func(r impl.Ring, n int)) {
	for _, r := range rings {
		for n := 1; n <= 4 && powerOf(r.Size, n) <= 300; n++ {
			visit(r, n)
		}
	}
}

// someRows returns lists of rows of a length: one for each vector where there are at most 32, all of two vectors where there are at most 9, and some of up to 5 vectors, one of which may come from others.
func someRows(r impl.Ring, n int) [][][]int {
	vectors := vectorsIn(r, n)
	lists := [][][]int{nil}
	for _, v := range vectors {
		if len(vectors) <= 32 {
			lists = append(lists, [][]int{v})
		}
		for _, w := range vectors {
			if len(vectors) <= 9 {
				lists = append(lists, [][]int{v, w})
			}
		}
	}
	next := scattered(powerOf(r.Size, n))
	for count := range 6 {
		for range 3 {
			var rows [][]int
			for range count {
				rows = append(rows, vectors[next(len(vectors))])
			}
			lists = append(lists, rows)
			if count > 1 {
				rows = slices.Clone(rows)
				rows[0] = plusMultiple(r, rows[count-1], next(r.Size), rows[1])
				lists = append(lists, rows)
			}
		}
	}
	return lists
}

// eachRows visits lists of rows over rings of several kinds.
func eachRows(t *testing.T, visit func(r impl.Ring, n int, rows [][]int)) {
	t.Helper()
	eachSpace(remainderRings(t), func(r impl.Ring, n int) {
		for _, rows := range someRows(r, n) {
			visit(r, n, rows)
		}
	})
}

func TestNumberOf(t *testing.T) {
	eachSpace(idealRings(), func(r impl.Ring, n int) {
		for number, v := range vectorsIn(r, n) {
			if got := impl.NumberOf(r, v); got != number {
				t.Errorf("NumberOf(%s, %v) = %d, want %d", impl.FormatRing(r), v, got, number)
			}
		}
	})
	for _, c := range []struct {
		text string
		a    []int
		want int
	}{
		{"4", []int{1, 2}, 6},
		{"4", []int{2, 1}, 9},
		{"4", []int{1, 0, 0, 0}, 64},
		{"4", []int{3, 3, 3, 3}, 255},
		{"2x2", []int{1, 2, 3}, 27},
		{"3", []int{0, 0, 1, 2}, 5},
		{"16", []int{15, 14}, 254},
		{"16", []int{7}, 7},
		{"16", []int{0, 0, 7}, -1},
		{"6", []int{5, 5, 5}, 215},
		{"6", []int{0, 0, 0, 0}, -1},
		{"7", []int{0, 0, 1}, -1},
		{"1", []int{0, 0, 0, 0}, 0},
	} {
		if got := impl.NumberOf(made(t, c.text), c.a); got != c.want {
			t.Errorf("NumberOf by %s of %v = %d, want %d", c.text, c.a, got, c.want)
		}
	}
}

func TestDotOf(t *testing.T) {
	for _, r := range idealRings() {
		for n := 1; n <= 2 && powerOf(r.Size, n) <= 64; n++ {
			for _, a := range vectorsIn(r, n) {
				for _, b := range vectorsIn(r, n) {
					if got, want := impl.DotOf(r, a, b), dotIn(r, a, b); got != want {
						t.Errorf("DotOf in %s of %v and %v = %d, want %d", impl.FormatRing(r), a, b, got, want)
					}
				}
			}
		}
	}
}

// TestDotOfLengths has lists that are longer than vectors, or of different lengths.
func TestDotOfLengths(t *testing.T) {
	for _, r := range idealRings() {
		next := scattered(r.Size)
		for _, length := range []int{0, 1, 2, 3, 4, 5, 7, 16, 17, 299, 300, 301, 1000} {
			var a, b []int
			for range length {
				a, b = append(a, next(r.Size)), append(b, next(r.Size))
			}
			if got, want := impl.DotOf(r, a, b), dotIn(r, a, b); got != want {
				t.Errorf("DotOf in %s of %v and %v = %d, want %d", impl.FormatRing(r), a, b, got, want)
			}
			for _, other := range [][]int{append(slices.Clone(a), 0), append(slices.Clone(a), r.Size-1), a[:length/2], append(slices.Clone(a), a...)} {
				if len(other) != length && (impl.DotOf(r, other, b) != -1 || impl.DotOf(r, b, other) != -1) {
					t.Errorf("DotOf in %s of %v and %v", impl.FormatRing(r), other, b)
				}
			}
		}
	}
	four := remainders(4)
	if impl.DotOf(four, []int{1, 2}, []int{3, 3}) != 1 || impl.DotOf(four, nil, []int{}) != 0 || impl.DotOf(four, nil, []int{0}) != -1 {
		t.Error("DotOf by 4")
	}
}

func TestCodesOfRows(t *testing.T) {
	eachRows(t, func(r impl.Ring, n int, rows [][]int) { areCoded(t, r, n, rows) })
}

// TestCodesOfSingleRows has all rows of spaces that are not small.
func TestCodesOfSingleRows(t *testing.T) {
	for _, text := range []string{"2", "3", "4", "2[1,1]", "2[0,0]", "5", "6", "2x4", "8", "2[0,0,0]", "12", "16", "3[0,0]", "4[2,0]"} {
		r := turned(made(t, text))
		eachSpace([]impl.Ring{made(t, text), r}, func(r impl.Ring, n int) {
			for _, v := range vectorsIn(r, n) {
				areCoded(t, r, n, [][]int{v})
			}
		})
	}
}

// TestSolveSystem has values of vectors, which are solved, and others.
func TestSolveSystem(t *testing.T) {
	eachRows(t, func(r impl.Ring, n int, rows [][]int) {
		next := scattered(r.Size + len(rows))
		vectors := vectorsIn(r, n)
		lists := [][]int{valuesAt(r, rows, vectors[next(len(vectors))]), slices.Repeat([]int{r.One}, len(rows))}
		var values []int
		for range rows {
			values = append(values, next(r.Size))
		}
		for _, values := range append(lists, values) {
			got, ok := impl.SolveSystem(r, n, rows, values)
			areLists(t, "SolveSystem of "+showRows(rows)+" and "+show(values...), r, got, ok, solvedIn(r, n, rows, values))
		}
	})
}

// TestSolveSystemPartitions checks that each vector solves a system with just one list of values, and that all lists that are solved have as many vectors as the dual.
func TestSolveSystemPartitions(t *testing.T) {
	rings := slices.DeleteFunc(remainderRings(t), func(r impl.Ring) bool { return r.Size > 6 })
	eachSpace(rings, func(r impl.Ring, n int) {
		for _, rows := range someRows(r, n) {
			if len(rows) > 2 {
				continue
			}
			dual, _ := impl.DualOf(r, n, rows)
			var all [][]int
			for _, values := range vectorsIn(r, len(rows)) {
				solved, ok := impl.SolveSystem(r, n, rows, values)
				if !ok || len(solved) != 0 && len(solved) != len(dual) {
					t.Errorf("SolveSystem in %s of %v and %v = %v, %v", impl.FormatRing(r), rows, values, solved, ok)
				}
				all = append(all, solved...)
			}
			slices.SortFunc(all, slices.Compare)
			areLists(t, "what solves "+showRows(rows), r, all, true, vectorsIn(r, n))
		}
	})
}

func TestSystemsOfKnownRings(t *testing.T) {
	for _, c := range []struct {
		text   string
		n      int
		rows   [][]int
		values []int
		want   [][]int
	}{
		{"4", 2, [][]int{{1, 2}}, []int{3}, [][]int{{1, 1}, {1, 3}, {3, 0}, {3, 2}}},
		{"4", 2, [][]int{{2, 2}}, []int{1}, nil},
		{"4", 2, [][]int{{1, 0}, {0, 1}}, []int{2, 3}, [][]int{{2, 3}}},
		{"4", 2, [][]int{{1, 0}, {1, 0}}, []int{2, 3}, nil},
		{"4", 2, [][]int{{1, 0}, {1, 0}}, []int{2, 2}, [][]int{{2, 0}, {2, 1}, {2, 2}, {2, 3}}},
		{"4", 1, [][]int{{0}}, []int{0}, [][]int{{0}, {1}, {2}, {3}}},
		{"4", 1, [][]int{{0}}, []int{2}, nil},
		{"5", 2, [][]int{{1, 1}, {1, 2}}, []int{3, 4}, [][]int{{2, 1}}},
		{"6", 1, [][]int{{2}, {3}}, []int{4, 3}, [][]int{{5}}},
		{"2", 3, [][]int{{1, 1, 0}, {0, 1, 1}}, []int{1, 0}, [][]int{{0, 1, 1}, {1, 0, 0}}},
		{"2", 3, [][]int{{1, 1, 0}, {0, 1, 1}, {1, 0, 1}}, []int{1, 0, 0}, nil},
		{"2[1,1]", 2, [][]int{{1, 2}}, []int{3}, [][]int{{0, 2}, {1, 1}, {2, 3}, {3, 0}}},
		{"2[1,1]", 2, [][]int{{1, 2}, {2, 1}}, []int{1, 0}, [][]int{{3, 1}}},
		{"1", 2, [][]int{{0, 0}}, []int{0}, [][]int{{0, 0}}},
	} {
		r := made(t, c.text)
		got, ok := impl.SolveSystem(r, c.n, c.rows, c.values)
		areLists(t, "SolveSystem of "+showRows(c.rows), r, got, ok, c.want)
	}
}

func TestKnownCodes(t *testing.T) {
	for _, c := range []struct {
		text     string
		n        int
		rows     [][]int
		weights  []int
		distance int
		dual     int // how many vectors it has
	}{
		{"4", 2, [][]int{{1, 2}}, []int{1, 1, 2}, 1, 4},
		{"4", 2, [][]int{{1, 1}}, []int{1, 0, 3}, 2, 4},
		{"4", 2, [][]int{{2, 2}}, []int{1, 0, 1}, 2, 8},
		{"4", 4, [][]int{{1, 1, 1, 1}, {0, 2, 0, 2}, {0, 0, 2, 2}}, []int{1, 0, 6, 0, 9}, 2, 16},
		{"2", 4, [][]int{{1, 1, 0, 0}, {0, 1, 1, 0}, {0, 0, 1, 1}}, []int{1, 0, 6, 0, 1}, 2, 2},
		{"2", 4, [][]int{{1, 1, 1, 1}}, []int{1, 0, 0, 0, 1}, 4, 8},
		{"2", 3, [][]int{{1, 0, 0}, {0, 1, 0}, {0, 0, 1}}, []int{1, 3, 3, 1}, 1, 1},
		{"3", 4, [][]int{{1, 1, 1, 0}, {0, 1, 2, 1}}, []int{1, 0, 0, 8, 0}, 3, 9},
		{"2[1,1]", 4, [][]int{{1, 0, 1, 1}, {0, 1, 2, 3}}, []int{1, 0, 0, 12, 3}, 3, 16},
		{"5", 3, [][]int{{1, 2, 3}}, []int{1, 0, 0, 4}, 3, 25},
		{"6", 3, [][]int{{2, 3, 0}}, []int{1, 3, 2, 0}, 1, 36},
		{"16", 2, [][]int{{4, 8}}, []int{1, 1, 2}, 1, 64},
		{"12", 1, [][]int{{8}, {6}}, []int{1, 5}, 1, 2},
		{"2x2", 2, [][]int{{1, 2}}, []int{1, 2, 1}, 1, 4},
		{"2[0,0]", 2, [][]int{{1, 2}}, []int{1, 1, 2}, 1, 4},
		{"1", 4, [][]int{{0, 0, 0, 0}}, []int{1, 0, 0, 0, 0}, 0, 1},
	} {
		r := made(t, c.text)
		what := showRows(c.rows)
		weights, ok := impl.WeightsOf(r, c.n, c.rows)
		isPoly(t, "WeightsOf "+what, r, weights, ok, c.weights)
		dual, ok := impl.DualOf(r, c.n, c.rows)
		if got := impl.DistanceOf(r, c.n, c.rows); got != c.distance || !ok || len(dual) != c.dual {
			t.Errorf("by %s %s has the distance %d and the dual %v, %v", c.text, what, got, dual, ok)
		}
	}
	four := remainders(4)
	span, ok := impl.SpanOf(four, 2, [][]int{{1, 2}})
	areLists(t, "SpanOf 1,2", four, span, ok, [][]int{{0, 0}, {1, 2}, {2, 0}, {3, 2}})
	dual, ok := impl.DualOf(four, 2, [][]int{{1, 2}})
	areLists(t, "DualOf 1,2", four, dual, ok, [][]int{{0, 0}, {0, 2}, {2, 1}, {2, 3}})
	span, ok = impl.SpanOf(remainders(6), 2, [][]int{{2, 3}})
	areLists(t, "SpanOf 2,3", remainders(6), span, ok, [][]int{{0, 0}, {0, 3}, {2, 0}, {2, 3}, {4, 0}, {4, 3}})
}

// TestDualsByNumbers checks P10: over the integers by a number, a span and its dual have as many pairs as there are vectors, and the dual of the dual is the span.
func TestDualsByNumbers(t *testing.T) {
	var rings []impl.Ring
	for n := 1; n <= impl.MaxSize; n++ {
		rings = append(rings, remainders(n))
	}
	rings = append(rings, swapped(remainders(4), 1, 3), turned(remainders(6)), turned(remainders(9)), swapped(remainders(16), 1, 15))
	eachSpace(rings, func(r impl.Ring, n int) {
		for _, rows := range someRows(r, n) {
			span, _ := impl.SpanOf(r, n, rows)
			dual, _ := impl.DualOf(r, n, rows)
			if len(span)*len(dual) != powerOf(r.Size, n) || !impl.IsCode(r, n, span) || !impl.IsCode(r, n, dual) {
				t.Errorf("in %s %v has the span %v and the dual %v", impl.FormatRing(r), rows, span, dual)
			}
			again, ok := impl.DualOf(r, n, dual)
			areLists(t, "the dual of the dual of "+showRows(rows), r, again, ok, span)
			ofSpan, ok := impl.DualOf(r, n, span)
			areLists(t, "the dual of the span of "+showRows(rows), r, ofSpan, ok, dual)
		}
	})
}

// TestDualsOfOtherRings has spans that make fewer or more vectors with their duals, over a ring that is not the integers by a number.
func TestDualsOfOtherRings(t *testing.T) {
	flat := flatRing(3) // in which the products of elements other than units are 0
	for _, c := range []struct {
		rows, span, dual [][]int
	}{
		{[][]int{{2}}, [][]int{{0}, {2}}, [][]int{{0}, {2}, {4}, {6}}},
		{[][]int{{4}, {2}}, [][]int{{0}, {2}, {4}, {6}}, [][]int{{0}, {2}, {4}, {6}}},
		{[][]int{{3}}, vectorsIn(flat, 1), [][]int{{0}}},
	} {
		span, ok := impl.SpanOf(flat, 1, c.rows)
		areLists(t, "SpanOf "+showRows(c.rows), flat, span, ok, c.span)
		dual, ok := impl.DualOf(flat, 1, c.rows)
		areLists(t, "DualOf "+showRows(c.rows), flat, dual, ok, c.dual)
	}
}

// TestCodesOfLengthOne checks that spans of single elements are ideals, that their duals have what makes these 0, and that systems of one row are equations.
func TestCodesOfLengthOne(t *testing.T) {
	single := func(list []int) [][]int {
		var rows [][]int
		for _, a := range list {
			rows = append(rows, []int{a})
		}
		return rows
	}
	eachIdeal(func(r impl.Ring, ideal []int) {
		span, ok := impl.SpanOf(r, 1, single(ideal))
		areLists(t, "SpanOf "+show(ideal...), r, span, ok, single(ideal))
		colon, _ := impl.ColonIdeal(r, []int{0}, ideal)
		dual, ok := impl.DualOf(r, 1, single(ideal))
		areLists(t, "DualOf "+show(ideal...), r, dual, ok, single(colon))
		if !impl.IsCode(r, 1, single(ideal)) {
			t.Errorf("IsCode in %s of %v is false", impl.FormatRing(r), ideal)
		}
	})
	for _, r := range idealRings() {
		for a := range r.Size {
			ideal, _ := impl.IdealOf(r, []int{a, r.Size / 2})
			span, ok := impl.SpanOf(r, 1, single([]int{a, r.Size / 2}))
			areLists(t, "SpanOf "+show(a, r.Size/2), r, span, ok, single(ideal))
			for b := range r.Size {
				solved, ok := impl.SolveSystem(r, 1, [][]int{{a}}, []int{negativeIn(r, b)})
				areLists(t, "SolveSystem "+show(a, b), r, solved, ok, single(impl.SolveLinear(r, a, b)))
			}
		}
	}
}

// TestCodesOfNoRows has the vector of zeros alone as the span, and all vectors as the dual.
func TestCodesOfNoRows(t *testing.T) {
	eachSpace(idealRings(), func(r impl.Ring, n int) {
		zero := make([]int, n)
		weights := make([]int, n+1)
		weights[0] = 1
		for _, rows := range [][][]int{nil, {}, {zero}, {zero, zero}} {
			values := make([]int, len(rows))
			span, ok := impl.SpanOf(r, n, rows)
			areLists(t, "SpanOf "+showRows(rows), r, span, ok, [][]int{zero})
			dual, ok := impl.DualOf(r, n, rows)
			areLists(t, "DualOf "+showRows(rows), r, dual, ok, vectorsIn(r, n))
			solved, ok := impl.SolveSystem(r, n, rows, values)
			areLists(t, "SolveSystem "+showRows(rows), r, solved, ok, vectorsIn(r, n))
			counts, ok := impl.WeightsOf(r, n, rows)
			isPoly(t, "WeightsOf "+showRows(rows), r, counts, ok, weights)
			if impl.DistanceOf(r, n, rows) != 0 || impl.IsCode(r, n, rows) != (len(rows) == 1) {
				t.Errorf("in %s %v has the distance %d, IsCode = %v", impl.FormatRing(r), rows, impl.DistanceOf(r, n, rows), impl.IsCode(r, n, rows))
			}
			solved, ok = impl.SolveSystem(r, n, rows, append(values, 0))
			areNoLists(t, "a value too many for "+showRows(rows), solved, ok)
		}
		solved, ok := impl.SolveSystem(r, n, [][]int{zero}, []int{r.Size - 1})
		want := [][]int{}
		if r.Size == 1 {
			want = [][]int{zero}
		}
		areLists(t, "SolveSystem of zeros", r, solved, ok, want)
	})
}

// TestRowsThatComeFromOthers adds rows that are sums of multiples of those before, in all places, and changes the order of rows.
func TestRowsThatComeFromOthers(t *testing.T) {
	eachRows(t, func(r impl.Ring, n int, rows [][]int) {
		if len(rows) == 0 || len(rows) > 3 {
			return
		}
		span := spanIn(r, n, rows)
		last := span[len(span)-1]
		middle := span[len(span)/2]
		for _, others := range [][][]int{
			append(slices.Clone(rows), middle), append([][]int{last}, rows...), append([][]int{make([]int, n)}, rows...),
			slices.Concat(rows, rows), slices.Concat(rows, [][]int{middle, last, middle}), slices.Concat(span, rows), append(slices.Clone(rows[1:]), rows[0]),
		} {
			got, ok := impl.SpanOf(r, n, others)
			areLists(t, "SpanOf "+showRows(others), r, got, ok, span)
			dual, ok := impl.DualOf(r, n, others)
			areLists(t, "DualOf "+showRows(others), r, dual, ok, solvedIn(r, n, rows, make([]int, len(rows))))
			weights, ok := impl.WeightsOf(r, n, others)
			isPoly(t, "WeightsOf "+showRows(others), r, weights, ok, weightsIn(n, span))
		}
	})
}

// TestIsCode has spans, and these with one vector less, more or in another place.
func TestIsCode(t *testing.T) {
	eachRows(t, func(r impl.Ring, n int, rows [][]int) {
		span := spanIn(r, n, rows)
		if len(rows) > 2 || len(span) > 16 {
			return
		}
		lists := [][][]int{span}
		for i, v := range span {
			less := slices.Delete(slices.Clone(span), i, i+1)
			twice := slices.Insert(slices.Clone(span), i, v)
			lists = append(lists, less, twice, append(slices.Clone(less), v))
		}
		for _, list := range lists {
			if got, want := impl.IsCode(r, n, list), isSpanIn(r, n, list); got != want {
				t.Errorf("IsCode in %s of %v = %v", impl.FormatRing(r), list, got)
			}
		}
	})
	four := remainders(4)
	all := vectorsIn(four, 4)
	if !impl.IsCode(four, 4, all) || impl.IsCode(four, 4, all[:255]) || impl.IsCode(four, 4, all[1:]) || impl.IsCode(four, 3, all) {
		t.Error("IsCode of all vectors by 4")
	}
	// All these rows are multiples of 1,2 that come in the order of the multiples, not of the numbers.
	if impl.IsCode(turned(four), 2, [][]int{{0, 0}, {3, 2}, {2, 0}, {1, 2}}) || !impl.IsCode(turned(four), 2, [][]int{{0, 0}, {1, 2}, {2, 0}, {3, 2}}) {
		t.Error("IsCode by 4 with other numbers")
	}
}

// TestTooManyVectors has all sizes and lengths, of which some have more than 300 vectors, even without rows.
func TestTooManyVectors(t *testing.T) {
	if impl.MaxVectors != 300 {
		t.Errorf("MaxVectors = %d", impl.MaxVectors)
	}
	longest := map[int]int{1: 4, 2: 4, 3: 4, 4: 4, 5: 3, 6: 3}
	for _, r := range idealRings() {
		most := longest[r.Size]
		if most == 0 {
			most = 2
		}
		for n := 1; n <= 6; n++ {
			zero := make([]int, n)
			other := slices.Repeat([]int{r.Size - 1}, n)
			if n <= most {
				areCoded(t, r, n, [][]int{other})
				if impl.NumberOf(r, zero) != 0 || impl.NumberOf(r, other) != powerOf(r.Size, n)-1 {
					t.Errorf("NumberOf in %s with the length %d", impl.FormatRing(r), n)
				}
				continue
			}
			areNotCoded(t, impl.FormatRing(r), r, n, nil, nil)
			areNotCoded(t, impl.FormatRing(r), r, n, [][]int{zero}, []int{0})
			areNotCoded(t, impl.FormatRing(r), r, n, [][]int{other, zero}, []int{0, r.One})
			if impl.NumberOf(r, zero) != -1 || impl.NumberOf(r, other) != -1 {
				t.Errorf("NumberOf in %s with the length %d", impl.FormatRing(r), n)
			}
		}
	}
}

// TestManyRows has as many rows as there may be, and one more.
func TestManyRows(t *testing.T) {
	eachSpace([]impl.Ring{remainders(1), remainders(2), remainders(4), turned(remainders(6)), fieldOfFour(), remainders(16), flatRing(4)}, func(r impl.Ring, n int) {
		vectors := vectorsIn(r, n)
		for _, some := range [][][]int{vectors, vectors[:1], vectors[len(vectors)-1:]} {
			rows := slices.Repeat(some, 301)[:300]
			if len(some) == 1 || r.Size <= 4 {
				areCoded(t, r, n, rows)
			}
			span, ok := impl.SpanOf(r, n, rows)
			areLists(t, "SpanOf 300 rows", r, span, ok, spanIn(r, n, some))
			areNotCoded(t, "301 rows", r, n, append(rows, some[0]), make([]int, 301))
			areNotCoded(t, "9999 rows", r, n, slices.Repeat(some, 9999)[:9999], make([]int, 9999))
			solved, ok := impl.SolveSystem(r, n, rows, slices.Repeat([]int{0}, 300))
			areLists(t, "SolveSystem of 300 rows", r, solved, ok, solvedIn(r, n, some, make([]int, len(some))))
		}
	})
}

// TestLastOfManyRows has 299 rows of zeros, with another one, which may be no vector, in front or behind.
func TestLastOfManyRows(t *testing.T) {
	eachSpace([]impl.Ring{remainders(2), remainders(4), fieldOfFour(), remainders(16)}, func(r impl.Ring, n int) {
		zeros := slices.Repeat([][]int{make([]int, n)}, 299)
		unit := slices.Repeat([]int{r.One}, n)
		for _, place := range []int{0, 150, 299} {
			rows := slices.Insert(slices.Clone(zeros), place, unit)
			values := slices.Insert(make([]int, 299), place, r.Size-1)
			areCoded(t, r, n, rows)
			solved, ok := impl.SolveSystem(r, n, rows, values)
			areLists(t, "SolveSystem of 300 rows", r, solved, ok, solvedIn(r, n, [][]int{unit}, []int{r.Size - 1}))
			solved, ok = impl.SolveSystem(r, n, zeros, values[:299])
			areLists(t, "SolveSystem of 299 rows", r, solved, ok, solvedIn(r, n, zeros, values[:299]))
			for _, bad := range [][]int{nil, unit[1:], append(slices.Clone(unit), 0), slices.Repeat([]int{r.Size}, n), slices.Repeat([]int{-1}, n)} {
				areNotCoded(t, "no vector in place "+show(place), r, n, slices.Insert(slices.Clone(zeros), place, bad), make([]int, 300))
			}
			values[place] = r.Size
			solved, ok = impl.SolveSystem(r, n, rows, values)
			areNoLists(t, "no element in place "+show(place), solved, ok)
		}
	})
}

func TestCodesOfRingOfOne(t *testing.T) {
	one := remainders(1)
	for n := 1; n <= 4; n++ {
		zero := make([]int, n)
		weights := make([]int, n+1)
		weights[0] = 1
		for _, rows := range [][][]int{nil, {zero}, {zero, zero}} {
			areCoded(t, one, n, rows)
			span, ok := impl.SpanOf(one, n, rows)
			areLists(t, "SpanOf", one, span, ok, [][]int{zero})
			dual, ok := impl.DualOf(one, n, rows)
			areLists(t, "DualOf", one, dual, ok, [][]int{zero})
			got, ok := impl.WeightsOf(one, n, rows)
			isPoly(t, "WeightsOf", one, got, ok, weights)
		}
		if impl.NumberOf(one, zero) != 0 || impl.DotOf(one, zero, zero) != 0 || !impl.IsCode(one, n, [][]int{zero}) || impl.IsCode(one, n, nil) || impl.DistanceOf(one, n, nil) != 0 {
			t.Errorf("the ring of one element with the length %d", n)
		}
	}
	for _, n := range []int{-1, 0, 5} {
		areNotCoded(t, "one", one, n, nil, nil)
	}
	areNotCoded(t, "one", one, 1, [][]int{{1}}, []int{0})
}

func TestCodesOfNoLengths(t *testing.T) {
	for _, r := range idealRings() {
		for _, n := range []int{0, -1, -2, 5, 6, 16, 300, math.MaxInt, math.MinInt} {
			what := impl.FormatRing(r)
			areNotCoded(t, what, r, n, nil, nil)
			areNotCoded(t, what, r, n, [][]int{{}}, []int{0})
			areNotCoded(t, what, r, n, [][]int{{0}}, []int{0})
			areNotCoded(t, what, r, n, [][]int{make([]int, max(n, 0)%1000)}, []int{0})
		}
	}
}

// TestRowsOfNoVectors has one row of another length, or with a number that is no element, among others.
func TestRowsOfNoVectors(t *testing.T) {
	eachSpace(remainderRings(t), func(r impl.Ring, n int) {
		what := impl.FormatRing(r)
		zero, last := make([]int, n), slices.Repeat([]int{r.Size - 1}, n)
		bad := [][]int{nil, {}, make([]int, n-1), make([]int, n+1), last[:n-1], append(slices.Clone(last), 0), make([]int, 2*n+3)}
		for _, a := range []int{-1, -r.Size, r.Size, r.Size + 1, 2 * r.Size, r.Size * r.Size, 16, 17, math.MaxInt, math.MinInt} {
			for i := range n {
				row := slices.Clone(zero)
				row[i] = a
				bad = append(bad, row)
			}
		}
		for _, row := range bad {
			for _, rows := range [][][]int{{row}, {row, zero}, {last, row}, {zero, last, row, zero}} {
				areNotCoded(t, what, r, n, rows, make([]int, len(rows)))
			}
			if len(row) == n && impl.NumberOf(r, row) != -1 {
				t.Errorf("NumberOf in %s of %v = %d", what, row, impl.NumberOf(r, row))
			}
		}
	})
}

func TestNumberOfNoVectors(t *testing.T) {
	for _, r := range idealRings() {
		for _, length := range []int{0, 5, 6, 7, 300, 1000} {
			for _, a := range []int{0, r.One, r.Size - 1} {
				if v := slices.Repeat([]int{a}, length); impl.NumberOf(r, v) != -1 {
					t.Errorf("NumberOf in %s of %d elements = %d", impl.FormatRing(r), length, impl.NumberOf(r, v))
				}
			}
		}
		for _, a := range []int{-1, -r.Size, r.Size, r.Size + 1, 2 * r.Size, 16, 17, math.MaxInt, math.MinInt} {
			for _, v := range [][]int{{a}, {0, a}, {a, 0}, {a, a}} {
				if impl.NumberOf(r, v) != -1 {
					t.Errorf("NumberOf in %s of %v = %d", impl.FormatRing(r), v, impl.NumberOf(r, v))
				}
			}
		}
	}
}

func TestDotOfNoElements(t *testing.T) {
	for _, r := range idealRings() {
		for _, a := range []int{-1, -r.Size, r.Size, r.Size + 1, 2 * r.Size, r.Size * r.Size, 16, 17, math.MaxInt, math.MinInt} {
			for _, two := range [][2][]int{{{a}, {0}}, {{a}, {a}}, {{0, a}, {0, 0}}, {{a, 0}, {r.One, r.One}}, {{0, 0, 0, 0, 0, a}, {0, 0, 0, 0, 0, 0}}} {
				if impl.DotOf(r, two[0], two[1]) != -1 || impl.DotOf(r, two[1], two[0]) != -1 {
					t.Errorf("DotOf in %s of %v and %v", impl.FormatRing(r), two[0], two[1])
				}
			}
		}
	}
}

// TestOtherValues has values that are fewer or more than the rows, or no elements.
func TestOtherValues(t *testing.T) {
	eachSpace(idealRings(), func(r impl.Ring, n int) {
		row := slices.Repeat([]int{r.One}, n)
		for count := range 4 {
			rows := slices.Repeat([][]int{row}, count)
			for _, other := range []int{0, 1, 2, 3, 4, 17, 300, 301} {
				if values := make([]int, other); other != count {
					got, ok := impl.SolveSystem(r, n, rows, values)
					areNoLists(t, show(other)+" values for "+showRows(rows), got, ok)
				}
			}
			for _, a := range []int{-1, -r.Size, r.Size, r.Size + 1, 2 * r.Size, 16, 17, math.MaxInt, math.MinInt} {
				for i := range count {
					values := make([]int, count)
					values[i] = a
					got, ok := impl.SolveSystem(r, n, rows, values)
					areNoLists(t, show(values...)+" for "+showRows(rows), got, ok)
				}
			}
		}
	})
}

func TestCodesOfBadRings(t *testing.T) {
	for name, r := range badRings() {
		for _, n := range []int{0, 1, 2, 3, 4, 5, -1, r.Size, math.MaxInt, math.MinInt} {
			areNotCoded(t, name, r, n, nil, nil)
			areNotCoded(t, name, r, n, [][]int{}, []int{})
			for _, a := range []int{0, 1, 3, 4, 16, -1, r.One, r.Size, r.Size - 1} {
				row := slices.Repeat([]int{a}, max(n, 0)%20)
				areNotCoded(t, name, r, n, [][]int{row}, []int{0})
				areNotCoded(t, name, r, n, [][]int{row, row}, []int{0, 0})
				if impl.NumberOf(r, row) != -1 || impl.DotOf(r, row, row) != -1 {
					t.Errorf("%s: NumberOf %v = %d, DotOf = %d", name, row, impl.NumberOf(r, row), impl.DotOf(r, row, row))
				}
			}
		}
		if impl.DotOf(r, nil, nil) != -1 || impl.NumberOf(r, nil) != -1 || impl.DotOf(r, []int{0}, nil) != -1 {
			t.Errorf("%s: a result for no elements", name)
		}
	}
}

// TestCodesAgain calls the functions many times and at once, since neither other calls nor the order in which multiples come may show in a result.
func TestCodesAgain(t *testing.T) {
	four, field := remainders(4), fieldOfFour()
	mixed := [][]int{{2, 0, 2, 0}, {1, 1, 1, 1}, {3, 1, 3, 1}, {0, 2, 0, 2}, {0, 0, 2, 2}, {2, 2, 2, 2}}
	want := spanIn(four, 4, mixed)
	var calling sync.WaitGroup
	for range 8 {
		calling.Go(func() {
			for range 100 {
				span, ok := impl.SpanOf(four, 4, mixed)
				areLists(t, "SpanOf", four, span, ok, want)
				weights, ok := impl.WeightsOf(field, 4, [][]int{{1, 0, 1, 1}, {0, 1, 2, 3}})
				isPoly(t, "WeightsOf", field, weights, ok, []int{1, 0, 0, 12, 3})
				areNotCoded(t, "the zero value", impl.Ring{}, 1, nil, nil)
				if !impl.IsCode(four, 4, want) || impl.IsCode(four, 4, mixed) || impl.DistanceOf(four, 4, mixed) != 2 {
					t.Error("another result")
				}
			}
		})
	}
	calling.Wait()
}

// TestCodesMemory checks that arguments, and what lies behind their ends, stay as they are, and that results have memory of their own.
func TestCodesMemory(t *testing.T) {
	plain := remainders(4)
	sums, sumsKept := guarded(plain.Sums)
	products, productsKept := guarded(plain.Products)
	first, firstKept := guarded([]int{1, 2, 0})
	second, secondKept := guarded([]int{0, 2, 2})
	values, valuesKept := guarded([]int{3, 2})
	memory := [][]int{first, second, {77}, {78}}
	kept := func() bool {
		isSame := slices.EqualFunc(memory, [][]int{{1, 2, 0}, {0, 2, 2}, {77}, {78}}, slices.Equal)
		return isSame && sumsKept() && productsKept() && firstKept() && secondKept() && valuesKept()
	}
	r := impl.Ring{Size: 4, One: 1, Sums: sums, Products: products}
	code := spanIn(plain, 3, memory[:2])
	for name, call := range map[string]func() ([][]int, bool){
		"SpanOf":              func() ([][]int, bool) { return impl.SpanOf(r, 3, memory[:2]) },
		"SpanOf no rows":      func() ([][]int, bool) { return impl.SpanOf(r, 3, memory[:0]) },
		"SpanOf all":          func() ([][]int, bool) { return impl.SpanOf(r, 3, code) },
		"DualOf":              func() ([][]int, bool) { return impl.DualOf(r, 3, memory[:2]) },
		"DualOf no rows":      func() ([][]int, bool) { return impl.DualOf(r, 3, memory[:0]) },
		"SolveSystem":         func() ([][]int, bool) { return impl.SolveSystem(r, 3, memory[:2], values) },
		"SolveSystem of none": func() ([][]int, bool) { return impl.SolveSystem(r, 3, memory[:0], values[:0]) },
	} {
		lists, _ := call()
		again, ok := call()
		var want [][]int
		for _, list := range again {
			want = append(want, slices.Clone(list))
		}
		for i, list := range lists {
			isList(t, name+": a list after others were changed", plain, list, want[i])
			overwrite(list)
		}
		for i := range lists[:cap(lists)] {
			lists[:cap(lists)][i] = nil
		}
		areLists(t, name, plain, again, ok, want)
		later, ok := call()
		areLists(t, name, plain, later, ok, want)
		if len(want) == 0 || !kept() || !slices.EqualFunc(code, spanIn(plain, 3, memory[:2]), slices.Equal) {
			t.Errorf("%s: memory is shared or changed", name)
		}
	}
	weights, _ := impl.WeightsOf(r, 3, memory[:2])
	again, ok := impl.WeightsOf(r, 3, memory[:2])
	overwrite(weights)
	isPoly(t, "WeightsOf", plain, again, ok, weightsIn(3, code))
	if impl.IsCode(r, 3, memory[:2]) || impl.DistanceOf(r, 3, memory[:2]) != 1 || impl.DotOf(r, first, second) != 0 || impl.NumberOf(r, first) != 24 || !kept() {
		t.Error("an argument has changed")
	}
}
