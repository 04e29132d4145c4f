package tests

import "loop.example/finiterings/impl"

// tabled returns the ring of a size whose sums and products are those of two functions.
func tabled(size int, one int, sum func(a, b int) int, product func(a, b int) int) impl.Ring {
	r := impl.Ring{Size: size, One: one}
	for a := range size {
		for b := range size {
			r.Sums = append(r.Sums, sum(a, b))
			r.Products = append(r.Products, product(a, b))
		}
	}
	return r
}

// remainders returns the ring of the integers by n.
func remainders(n int) impl.Ring {
	return tabled(n, 1%n, func(a, b int) int { return (a + b) % n }, func(a, b int) int { return a * b % n })
}

// pairs returns the ring of the pairs of integers by m and by n.
func pairs(m, n int) impl.Ring {
	each := func(op func(a, b int) int) func(a, b int) int {
		return func(a, b int) int { return op(a/n, b/n)%m*n + op(a%n, b%n)%n }
	}
	return tabled(m*n, 1%m*n+1%n, each(func(a, b int) int { return a + b }), each(func(a, b int) int { return a * b }))
}

// fieldOfFour returns the field of four elements, in which 2 times 2 is 3.
func fieldOfFour() impl.Ring {
	return impl.Ring{Size: 4, One: 1, Sums: xors(4), Products: []int{0, 0, 0, 0, 0, 1, 2, 3, 0, 2, 3, 1, 0, 3, 1, 2}}
}

// xors returns the table of sums by 2 of all digits of two binary numbers.
func xors(size int) []int {
	var table []int
	for a := range size {
		for b := range size {
			table = append(table, a^b)
		}
	}
	return table
}

// swapped returns a ring in which two elements other than 0 have each other's numbers.
func swapped(r impl.Ring, x, y int) impl.Ring {
	name := func(a int) int {
		switch a {
		case x:
			return y
		case y:
			return x
		}
		return a
	}
	sum := func(a, b int) int { return name(r.Sums[name(a)*r.Size+name(b)]) }
	product := func(a, b int) int { return name(r.Products[name(a)*r.Size+name(b)]) }
	return tabled(r.Size, name(r.One), sum, product)
}

// someRings returns rings of all sizes and of several kinds.
func someRings() []impl.Ring {
	var rings []impl.Ring
	for n := 1; n <= impl.MaxSize; n++ {
		rings = append(rings, remainders(n))
	}
	rings = append(rings, fieldOfFour(), pairs(2, 2), pairs(2, 4), pairs(3, 3), pairs(4, 4), pairs(1, 3))
	return append(rings, swapped(remainders(3), 1, 2), swapped(remainders(16), 1, 15), swapped(fieldOfFour(), 1, 3), swapped(pairs(2, 4), 1, 5))
}

// copied returns a ring with tables of its own.
func copied(r impl.Ring) impl.Ring {
	return impl.Ring{Size: r.Size, One: r.One, Sums: append([]int(nil), r.Sums...), Products: append([]int(nil), r.Products...)}
}

// faults returns the names of the laws of a ring that fail in tables whose elements are within the size.
func faults(r impl.Ring) []string {
	sum := func(a, b int) int { return r.Sums[a*r.Size+b] }
	product := func(a, b int) int { return r.Products[a*r.Size+b] }
	broken := map[string]bool{}
	for a := range r.Size {
		broken["zero"] = broken["zero"] || sum(a, 0) != a
		broken["one"] = broken["one"] || product(a, r.One) != a
		negative := false
		for b := range r.Size {
			negative = negative || sum(b, a) == 0
			broken["sums commute"] = broken["sums commute"] || sum(a, b) != sum(b, a)
			broken["products commute"] = broken["products commute"] || product(a, b) != product(b, a)
			for c := range r.Size {
				broken["sums associate"] = broken["sums associate"] || sum(sum(a, b), c) != sum(a, sum(b, c))
				broken["products associate"] = broken["products associate"] || product(product(a, b), c) != product(a, product(b, c))
				broken["distributes"] = broken["distributes"] || product(a, sum(b, c)) != sum(product(a, b), product(a, c))
			}
		}
		broken["negatives"] = broken["negatives"] || !negative
	}
	var names []string
	for name, b := range broken {
		if b {
			names = append(names, name)
		}
	}
	return names
}
