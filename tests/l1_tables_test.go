package tests

import (
	"math"
	"slices"
	"strings"
	"testing"

	"loop.example/finiterings/impl"
)

// badRings returns tables that are no ring, with what is wrong with them.
func badRings() map[string]impl.Ring {
	four := remainders(4)
	with := func(change func(r *impl.Ring)) impl.Ring {
		r := copied(four)
		change(&r)
		return r
	}
	return map[string]impl.Ring{
		"zero value":        {},
		"size 0":            with(func(r *impl.Ring) { r.Size = 0 }),
		"negative size":     with(func(r *impl.Ring) { r.Size = -4 }),
		"least size":        {Size: math.MinInt, Sums: []int{0}, Products: []int{0}},
		"size 17":           remainders(17),
		"size wraps":        {Size: 1 << 32},
		"size below 0":      {Size: -1},
		"size 17, 16 rows":  {Size: 17, One: 1, Sums: remainders(16).Sums, Products: remainders(16).Products},
		"size too small":    with(func(r *impl.Ring) { r.Size = 3 }),
		"size too large":    with(func(r *impl.Ring) { r.Size = 5 }),
		"One negative":      with(func(r *impl.Ring) { r.One = -1 }),
		"One no element":    with(func(r *impl.Ring) { r.One = 4 }),
		"One is 0":          with(func(r *impl.Ring) { r.One = 0 }),
		"One another":       with(func(r *impl.Ring) { r.One = 3 }),
		"One of one":        {Size: 1, One: 1, Sums: []int{0}, Products: []int{0}},
		"no sums":           with(func(r *impl.Ring) { r.Sums = nil }),
		"no products":       with(func(r *impl.Ring) { r.Products = nil }),
		"sums short":        with(func(r *impl.Ring) { r.Sums = r.Sums[:15] }),
		"sums long":         with(func(r *impl.Ring) { r.Sums = append(r.Sums, 0) }),
		"products short":    with(func(r *impl.Ring) { r.Products = r.Products[:15] }),
		"products long":     with(func(r *impl.Ring) { r.Products = append(r.Products, 0) }),
		"sum negative":      with(func(r *impl.Ring) { r.Sums[15] = -1 }),
		"sum too large":     with(func(r *impl.Ring) { r.Sums[15] = 4 }),
		"product negative":  with(func(r *impl.Ring) { r.Products[0] = -1 }),
		"product too large": with(func(r *impl.Ring) { r.Products[15] = 4 }),
		"one law fails":     with(func(r *impl.Ring) { r.Products = make([]int, 16) }),
	}
}

func TestRingValidOfRings(t *testing.T) {
	for _, r := range someRings() {
		if !impl.RingValid(r) {
			t.Errorf("RingValid(%v) is false", r)
		}
	}
}

func TestRingValidOfBadRings(t *testing.T) {
	for name, r := range badRings() {
		if impl.RingValid(r) {
			t.Errorf("%s: RingValid(%v) is true", name, r)
		}
	}
}

// TestRingValidLaws has, for each law, tables in which just that law fails.
func TestRingValidLaws(t *testing.T) {
	and, xor := []int{0, 0, 0, 1}, []int{0, 1, 1, 0}
	threes := []int{0, 0, 0, 0, 1, 2, 0, 2, 1}
	// Products of a pair and a pair: the left pair times the second one's first part, so that 2 is neutral on the right.
	firstPart := func(a, b int) int { return a * (b / 2) }
	// Products of binary digits as coefficients of 1, x and y, with x squared y, x times y 0, and y squared x.
	looseProduct := func(a, b int) int {
		result := 0
		table := [3][3]int{{1, 2, 4}, {2, 4, 0}, {4, 0, 2}}
		for i := range 3 {
			for j := range 3 {
				if a>>i&1 == 1 && b>>j&1 == 1 {
					result ^= table[i][j]
				}
			}
		}
		return result
	}
	bits := func(a, b int) int { return a ^ b }
	for law, r := range map[string]impl.Ring{
		"zero":               {Size: 2, One: 1, Sums: []int{0, 0, 0, 0}, Products: and},
		"sums commute":       {Size: 2, One: 1, Sums: []int{0, 0, 1, 1}, Products: and},
		"sums associate":     {Size: 3, One: 1, Sums: []int{0, 1, 2, 1, 0, 0, 2, 0, 0}, Products: threes},
		"negatives":          {Size: 2, One: 1, Sums: []int{0, 1, 1, 1}, Products: and},
		"one":                {Size: 2, One: 1, Sums: xor, Products: []int{0, 0, 0, 0}},
		"products commute":   tabled(4, 2, bits, firstPart),
		"products associate": tabled(8, 1, bits, looseProduct),
		"distributes":        {Size: 2, One: 1, Sums: xor, Products: []int{1, 0, 0, 1}},
	} {
		if f := faults(r); !slices.Equal(f, []string{law}) {
			t.Errorf("%s: faults %v", law, f)
		}
		if impl.RingValid(r) {
			t.Errorf("%s fails, but RingValid(%v) is true", law, r)
		}
	}
}

// TestRingValidOfTwo tries all tables of two elements.
func TestRingValidOfTwo(t *testing.T) {
	count := 0
	for code := range 512 {
		r := impl.Ring{Size: 2, One: code >> 8}
		for i := range 4 {
			r.Sums = append(r.Sums, code>>i&1)
			r.Products = append(r.Products, code>>(4+i)&1)
		}
		if got, want := impl.RingValid(r), len(faults(r)) == 0; got != want {
			t.Errorf("RingValid(%v) = %v", r, got)
		}
		if impl.RingValid(r) {
			count++
		}
	}
	if count != 1 {
		t.Errorf("%d rings of two elements", count)
	}
}

// TestRingValidOfOneChange changes each cell of tables to each other number.
func TestRingValidOfOneChange(t *testing.T) {
	for n := 1; n <= impl.MaxSize; n++ {
		r := remainders(n)
		for _, table := range [][]int{r.Sums, r.Products} {
			for i, old := range table {
				for v := -1; v <= n; v++ {
					table[i] = v
					if impl.RingValid(r) != (v == old) {
						t.Errorf("RingValid(%v) = %v", r, v != old)
					}
				}
				table[i] = old
			}
		}
	}
}

func TestSumsAndProducts(t *testing.T) {
	for _, r := range someRings() {
		for a := range r.Size {
			for b := range r.Size {
				if got, want := impl.Add(r, a, b), r.Sums[a*r.Size+b]; got != want {
					t.Errorf("Add(%v, %d, %d) = %d", r, a, b, got)
				}
				if got, want := impl.Mul(r, a, b), r.Products[a*r.Size+b]; got != want {
					t.Errorf("Mul(%v, %d, %d) = %d", r, a, b, got)
				}
			}
			if n := impl.Neg(r, a); n < 0 || n >= r.Size || r.Sums[a*r.Size+n] != 0 {
				t.Errorf("Neg(%v, %d) = %d", r, a, n)
			}
		}
	}
}

func TestTimes(t *testing.T) {
	for _, r := range someRings() {
		for a := range r.Size {
			up, down := 0, 0
			for n := range 40 {
				if got := impl.Times(r, n, a); got != up {
					t.Errorf("Times(%v, %d, %d) = %d", r, n, a, got)
				}
				if got := impl.Times(r, -n, a); got != down {
					t.Errorf("Times(%v, %d, %d) = %d", r, -n, a, got)
				}
				up = r.Sums[up*r.Size+a]
				down = r.Sums[down*r.Size+impl.Neg(r, a)]
			}
		}
	}
}

func TestTimesOfExtremes(t *testing.T) {
	for n := 1; n <= impl.MaxSize; n++ {
		r := remainders(n)
		for a := range n {
			for _, k := range []int{math.MinInt, math.MinInt + 1, math.MaxInt, math.MaxInt - 1} {
				want := (k%n*a%n + n) % n
				if got := impl.Times(r, k, a); got != want {
					t.Errorf("by %d: Times(%d, %d) = %d, want %d", n, k, a, got, want)
				}
			}
		}
	}
}

func TestPower(t *testing.T) {
	for _, r := range someRings() {
		for a := range r.Size {
			product := r.One
			for n := range 40 {
				if got := impl.Power(r, a, n); got != product {
					t.Errorf("Power(%v, %d, %d) = %d", r, a, n, got)
				}
				product = r.Products[product*r.Size+a]
			}
			for _, n := range []int{-1, math.MinInt} {
				if got := impl.Power(r, a, n); got != -1 {
					t.Errorf("Power(%v, %d, %d) = %d", r, a, n, got)
				}
			}
		}
	}
	// The units by 7 have the order 6, and the greatest number leaves 1 by 6.
	if got := impl.Power(remainders(7), 3, math.MaxInt); got != 3 {
		t.Errorf("Power to the greatest number = %d", got)
	}
	if got := impl.Power(remainders(8), 2, math.MaxInt); got != 0 {
		t.Errorf("Power of a nilpotent = %d", got)
	}
}

func TestCharacteristic(t *testing.T) {
	for n := 1; n <= impl.MaxSize; n++ {
		if got := impl.CharacteristicOf(remainders(n)); got != n {
			t.Errorf("CharacteristicOf integers by %d = %d", n, got)
		}
	}
	for _, c := range []struct {
		ring impl.Ring
		want int
	}{{fieldOfFour(), 2}, {pairs(2, 2), 2}, {pairs(2, 4), 4}, {pairs(2, 3), 6}, {pairs(3, 3), 3}, {swapped(remainders(16), 1, 15), 16}} {
		if got := impl.CharacteristicOf(c.ring); got != c.want {
			t.Errorf("CharacteristicOf(%v) = %d, want %d", c.ring, got, c.want)
		}
	}
}

func TestRingOfOne(t *testing.T) {
	one := impl.Ring{Size: 1, Sums: []int{0}, Products: []int{0}}
	if !impl.RingValid(one) || impl.FormatRing(one) != "0 0 0" || impl.CharacteristicOf(one) != 1 {
		t.Error("the ring of one element")
	}
	if r, ok := impl.ParseRing("0 0 0"); !ok || !impl.SameRing(r, one) {
		t.Errorf("ParseRing = %v, %v", r, ok)
	}
	if impl.Add(one, 0, 0) != 0 || impl.Mul(one, 0, 0) != 0 || impl.Neg(one, 0) != 0 || impl.Add(one, 1, 0) != -1 {
		t.Error("sums and products of one element")
	}
	for _, n := range []int{0, 1, 5, math.MaxInt} {
		if impl.Times(one, n, 0) != 0 || impl.Times(one, -n, 0) != 0 || impl.Power(one, 0, n) != 0 {
			t.Errorf("%d times", n)
		}
	}
	if impl.Times(one, math.MinInt, 0) != 0 {
		t.Error("the least number of times")
	}
}

func TestNoElements(t *testing.T) {
	for _, r := range someRings() {
		for _, a := range []int{-1, r.Size, math.MaxInt, math.MinInt} {
			got := []int{impl.Add(r, a, 0), impl.Add(r, 0, a), impl.Mul(r, a, 0), impl.Mul(r, 0, a), impl.Neg(r, a), impl.Times(r, 1, a), impl.Times(r, 0, a), impl.Power(r, a, 1), impl.Power(r, a, 0)}
			for i, g := range got {
				if g != -1 {
					t.Errorf("size %d, %d is no element: result %d is %d", r.Size, a, i, g)
				}
			}
		}
	}
}

func TestFunctionsOfBadRings(t *testing.T) {
	for name, r := range badRings() {
		got := []int{impl.Add(r, 0, 0), impl.Mul(r, 0, 0), impl.Neg(r, 0), impl.Times(r, 0, 0), impl.Times(r, 3, 0), impl.Power(r, 0, 0), impl.Power(r, 0, 2), impl.CharacteristicOf(r)}
		for i, g := range got {
			if g != -1 {
				t.Errorf("%s: result %d is %d", name, i, g)
			}
		}
		if text := impl.FormatRing(r); text != "" {
			t.Errorf("%s: FormatRing = %q", name, text)
		}
	}
}

func TestFormatRing(t *testing.T) {
	for text, r := range map[string]impl.Ring{
		"0 0 0":                     remainders(1),
		"1 01/10 00/01":             remainders(2),
		"1 012/120/201 000/012/021": remainders(3),
		"2 012/120/201 000/021/012": swapped(remainders(3), 1, 2),
		"1 0123/1230/2301/3012 0000/0123/0202/0321": remainders(4),
		"1 0123/1032/2301/3210 0000/0123/0231/0312": fieldOfFour(),
		"3 0123/1032/2301/3210 0000/0101/0022/0123": pairs(2, 2),
	} {
		if got := impl.FormatRing(r); got != text {
			t.Errorf("FormatRing(%v) = %q, want %q", r, got, text)
		}
	}
	text := impl.FormatRing(swapped(remainders(16), 1, 15))
	if len(text) != 545 || !strings.HasPrefix(text, "f 0123456789abcdef/1") || !strings.Contains(text, " 0000000000000000/0") || !strings.HasSuffix(text, "/0123456789abcdef") {
		t.Errorf("FormatRing of sixteen elements = %q", text)
	}
}

func TestParseRing(t *testing.T) {
	for _, r := range someRings() {
		got, ok := impl.ParseRing(impl.FormatRing(r))
		if !ok || got.Size != r.Size || got.One != r.One || !slices.Equal(got.Sums, r.Sums) || !slices.Equal(got.Products, r.Products) {
			t.Errorf("ParseRing(%q) = %v, %v", impl.FormatRing(r), got, ok)
		}
	}
}

// parsesToNothing checks that a text is no ring's.
func parsesToNothing(t *testing.T, s string) {
	t.Helper()
	if r, ok := impl.ParseRing(s); ok || r.Size != 0 || r.One != 0 || len(r.Sums) != 0 || len(r.Products) != 0 {
		t.Errorf("ParseRing(%q) = %v, %v", s, r, ok)
	}
}

func TestParseRingOfOtherTexts(t *testing.T) {
	for _, s := range []string{
		"", " ", "0", "0 0", "0 0 ", "0 0 0 ", " 0 0 0", "0 0 0\n", "0  0 0", "1 0 0", "0 1 0", "0 0 1", "0/0/0", "-1 0 0",
		"1 01/10", "1 01/10 00/01/", "1 01/10/00/01", "1 01 10 00/01", "1 01/10 00 01", "1/01/10 00/01", "101/10 00/01",
		"1 01/10 00/0", "1 01/10 00/011", "01 01/10 00/01", "+ 01/10 00/01", "2 01/10 00/01", "g 01/10 00/01", "1 01/1g 00/01",
		"1 01/10 00/0\xff", "1 01/10 00/0\x00", "1 01|10 00/01", "1 01/10\t00/01", "1 01/11 00/01", "1 01/10 00/00", "1 00/11 00/01",
		"1 01/10 00/01x1 01/10 00/01", "１ 01/10 00/01", strings.Repeat("0", 545), strings.Repeat("1 01/10 00/01", 100000),
	} {
		parsesToNothing(t, s)
	}
	parsesToNothing(t, strings.ToUpper(impl.FormatRing(remainders(11))))
	parsesToNothing(t, textOf(remainders(17), "0123456789abcdefg"))
}

// textOf returns the text of tables by digits that may be more than sixteen.
func textOf(r impl.Ring, digits string) string {
	text := digits[r.One:r.One+1] + " "
	for i, table := range [][]int{r.Sums, r.Products} {
		text += []string{"", " "}[i]
		for j, a := range table {
			if j > 0 && j%r.Size == 0 {
				text += "/"
			}
			text += digits[a : a+1]
		}
	}
	return text
}

func TestParseRingOfOneChange(t *testing.T) {
	for _, r := range []impl.Ring{remainders(2), remainders(4), fieldOfFour()} {
		text := impl.FormatRing(r)
		for i := range len(text) {
			for b := range 256 {
				if changed := text[:i] + string([]byte{byte(b)}) + text[i+1:]; changed != text {
					parsesToNothing(t, changed)
				}
			}
			parsesToNothing(t, text[:i])
			parsesToNothing(t, text[:i]+text[i+1:])
			parsesToNothing(t, text[:i]+"0"+text[i:])
		}
	}
}

func TestSameRing(t *testing.T) {
	four := remainders(4)
	if !impl.SameRing(four, copied(four)) || impl.SameRing(four, fieldOfFour()) || impl.SameRing(remainders(3), four) {
		t.Error("SameRing of rings")
	}
	if !impl.SameRing(impl.Ring{}, impl.Ring{Sums: []int{}, Products: []int{}}) {
		t.Error("SameRing of nil and empty tables")
	}
	if !impl.SameRing(impl.Ring{Size: -3, One: 99, Sums: []int{7}}, impl.Ring{Size: -3, One: 99, Sums: []int{7}}) {
		t.Error("SameRing of tables that are no ring")
	}
	changes := []func(r *impl.Ring){
		func(r *impl.Ring) { r.Size = 5 },
		func(r *impl.Ring) { r.One = 3 },
		func(r *impl.Ring) { r.Sums[15]++ },
		func(r *impl.Ring) { r.Products[0]-- },
		func(r *impl.Ring) { r.Sums = r.Sums[:15] },
		func(r *impl.Ring) { r.Products = append(r.Products, 0) },
		func(r *impl.Ring) { r.Products = nil },
	}
	for i, change := range changes {
		other := copied(four)
		change(&other)
		if impl.SameRing(four, other) || impl.SameRing(other, four) {
			t.Errorf("SameRing after change %d", i)
		}
	}
	for name, r := range badRings() {
		if !impl.SameRing(r, copied(r)) {
			t.Errorf("%s: SameRing is false", name)
		}
	}
}

// TestTablesMemory checks that arguments, and what lies behind their ends, stay as they are, and that results have memory of their own.
func TestTablesMemory(t *testing.T) {
	full := remainders(4)
	memory := append(append(append([]int(nil), full.Sums...), full.Products...), 77, 78, 79)
	before := append([]int(nil), memory...)
	r := impl.Ring{Size: 4, One: 1, Sums: memory[:16], Products: memory[16:32]}
	impl.RingValid(r)
	impl.Add(r, 3, 3)
	impl.Mul(r, 3, 3)
	impl.Neg(r, 3)
	impl.Times(r, -7, 3)
	impl.Power(r, 3, 7)
	impl.CharacteristicOf(r)
	impl.FormatRing(r)
	impl.SameRing(r, full)
	if !slices.Equal(memory, before) {
		t.Errorf("memory is %v", memory)
	}
	text := impl.FormatRing(r)
	first, _ := impl.ParseRing(text)
	second, _ := impl.ParseRing(text)
	for i := range cap(first.Sums) {
		first.Sums[:cap(first.Sums)][i] = 9
	}
	if !slices.Equal(first.Products, full.Products) || !impl.SameRing(second, full) {
		t.Error("results of ParseRing share memory")
	}
}
