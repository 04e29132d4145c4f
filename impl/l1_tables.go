package impl

import (
	"slices"
	"strings"
)

// MaxSize limits rings.
const MaxSize = 16

// digits are those of elements in the text of a ring.
const digits = "0123456789abcdef"

// A Ring has the elements from 0 to its size minus 1, of which 0 is the zero, with tables of sums and products, row by row.
type Ring struct {
	Size     int
	One      int
	Sums     []int
	Products []int
}

// A shape has the size of a ring, its One and the lengths of its tables of sums and products.
type shape [4]int

// RingValid reports whether tables are a commutative ring.
func RingValid(r Ring) bool {
	return r.fits() && r.operationHolds(r.Sums, 0) && r.operationHolds(r.Products, r.One) && r.negativesExist() && r.distributes()
}

// Add returns the sum of two elements.
func Add(r Ring, a int, b int) int {
	if !RingValid(r) || !r.has(a) || !r.has(b) {
		return -1
	}
	return r.sum(a, b)
}

// Mul returns the product of two elements.
func Mul(r Ring, a int, b int) int {
	if !RingValid(r) || !r.has(a) || !r.has(b) {
		return -1
	}
	return r.product(a, b)
}

// Neg returns the element whose sum with one is 0.
func Neg(r Ring, a int) int {
	if !RingValid(r) || !r.has(a) {
		return -1
	}
	return r.negative(a)
}

// Times returns the sum of so many times an element.
func Times(r Ring, n int, a int) int {
	if !RingValid(r) || !r.has(a) {
		return -1
	}
	return r.multiple(n, a)
}

// Power returns the product of so many times an element.
func Power(r Ring, a int, n int) int {
	if !RingValid(r) || !r.has(a) || n < 0 {
		return -1
	}
	return r.power(a, n)
}

// CharacteristicOf returns the least number of ones whose sum is 0.
func CharacteristicOf(r Ring) int {
	if !RingValid(r) {
		return -1
	}
	return r.sumOrder(r.One)
}

// FormatRing returns the text of a ring.
func FormatRing(r Ring) string {
	if !RingValid(r) {
		return ""
	}
	text := []byte{digits[r.One], ' '}
	text = r.appendTable(text, r.Sums)
	text = append(text, ' ')
	return string(r.appendTable(text, r.Products))
}

// ParseRing parses the text of a ring.
func ParseRing(s string) (Ring, bool) {
	for size := 1; size <= MaxSize; size++ {
		width := size * (size + 1) // of a table and the one byte after it
		if len(s) == 1+2*width {
			r := Ring{size, strings.IndexByte(digits, s[0]), readTable(s[2:], size), readTable(s[2+width:], size)}
			// Bytes between elements are not read, so the text tells whether they are right.
			if FormatRing(r) == s {
				return r, true
			}
		}
	}
	return Ring{}, false
}

// SameRing reports whether two rings have the same tables.
func SameRing(r Ring, s Ring) bool {
	return r.shape() == s.shape() && slices.Equal(r.Sums, s.Sums) && slices.Equal(r.Products, s.Products)
}

// readTable reads a table without its separators; a byte that is no digit becomes -1.
func readTable(s string, size int) []int {
	table := make([]int, 0, size*size)
	for a := range size {
		for b := range size {
			table = append(table, strings.IndexByte(digits, s[a*(size+1)+b]))
		}
	}
	return table
}

// appendTable appends the text of a table.
func (r Ring) appendTable(text []byte, table []int) []byte {
	for a := range r.Size {
		if a > 0 {
			text = append(text, '/')
		}
		for _, b := range r.row(table, a) {
			text = append(text, digits[b])
		}
	}
	return text
}

// shape returns what rings have in common whose tables can be the same.
func (r Ring) shape() shape {
	return shape{r.Size, r.One, len(r.Sums), len(r.Products)}
}

// has reports whether a number is an element.
func (r Ring) has(a int) bool {
	return 0 <= a && a < r.Size
}

// hasAll reports whether all numbers of a list are elements.
func (r Ring) hasAll(list []int) bool {
	for _, a := range list {
		if !r.has(a) {
			return false
		}
	}
	return true
}

// fits reports whether size, One and tables are within their bounds, so that the tables can be read.
func (r Ring) fits() bool {
	// The size comes first because the square of a large one wraps around.
	if r.Size < 1 || r.Size > MaxSize || !r.has(r.One) {
		return false
	}
	cells := r.Size * r.Size
	return r.shape() == shape{r.Size, r.One, cells, cells} && r.hasAll(r.Sums) && r.hasAll(r.Products)
}

// row returns the row of an element in a table, without room to grow into the next one.
func (r Ring) row(table []int, a int) []int {
	from, to := a*r.Size, (a+1)*r.Size
	return table[from:to:to]
}

// operationHolds reports whether a table is commutative, associative, and has a neutral element.
func (r Ring) operationHolds(table []int, neutral int) bool {
	holds := true
laws:
	for a := range r.Size {
		ofA := r.row(table, a)
		if ofA[neutral] != a {
			holds = false
			break laws
		}
		for b := range r.Size {
			ofB := r.row(table, b)
			if ofA[b] != ofB[a] {
				holds = false
				break laws
			}
			ofBoth := r.row(table, ofA[b])
			for c := range r.Size {
				if ofBoth[c] != ofA[ofB[c]] {
					holds = false
					break laws
				}
			}
		}
	}
	return holds
}

// negativesExist reports whether each element has one with which its sum is 0, where sums are commutative.
func (r Ring) negativesExist() bool {
	for a := range r.Size {
		if !slices.Contains(r.row(r.Sums, a), 0) {
			return false
		}
	}
	return true
}

// distributes reports whether each product with a sum is the sum of the products.
func (r Ring) distributes() bool {
	holds := true
law:
	for a := range r.Size {
		products := r.row(r.Products, a)
		for b := range r.Size {
			sums := r.row(r.Sums, b)
			ofProduct := r.row(r.Sums, products[b])
			for c := range r.Size {
				if products[sums[c]] != ofProduct[products[c]] {
					holds = false
					break law
				}
			}
		}
	}
	return holds
}

// sum returns the sum of two elements of a valid ring.
func (r Ring) sum(a, b int) int {
	return r.row(r.Sums, a)[b]
}

// product returns the product of two elements of a valid ring.
func (r Ring) product(a, b int) int {
	return r.row(r.Products, a)[b]
}

// negative returns the element of a valid ring whose sum with one is 0.
func (r Ring) negative(a int) int {
	return slices.Index(r.row(r.Sums, a), 0)
}

// sumOrder returns the least number of times, from 1 on, that an element of a valid ring has the sum 0.
func (r Ring) sumOrder(a int) int {
	return r.order(r.Sums, 0, a)
}

// order returns the least number of times, from 1 on, that an element gives the neutral one in a table, if there is such a number.
func (r Ring) order(table []int, neutral, a int) int {
	order := 1
	for result := a; result != neutral; result = r.row(table, result)[a] {
		order++
	}
	return order
}

// multiple returns the sum of n times an element of a valid ring, for a negative n too.
func (r Ring) multiple(n, a int) int {
	// Reducing n first, instead of turning its sign, serves the least number too, which has no positive counterpart.
	order := r.sumOrder(a)
	count := (n%order + order) % order
	sum := 0
	for range count {
		sum = r.sum(sum, a)
	}
	return sum
}

// power returns the product of n times an element of a valid ring; n is not negative.
func (r Ring) power(a, n int) int {
	result := r.One
	for square := a; n > 0; n /= 2 {
		if n%2 == 1 {
			result = r.product(result, square)
		}
		square = r.product(square, square)
	}
	return result
}
