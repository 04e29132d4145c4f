package tests

import (
	"math"
	"slices"
	"strings"
	"sync"
	"testing"

	"loop.example/finiterings/impl"
)

// allGroups returns the invariants of all groups of at most 16 elements.
func allGroups() [][]int {
	return [][]int{
		{},
		{2},
		{3},
		{4}, {2, 2},
		{5},
		{2, 3},
		{7},
		{8}, {2, 4}, {2, 2, 2},
		{9}, {3, 3},
		{2, 5},
		{11},
		{3, 4}, {2, 2, 3},
		{13},
		{2, 7},
		{3, 5},
		{16}, {2, 8}, {4, 4}, {2, 2, 4}, {2, 2, 2, 2},
	}
}

// sizeOf returns how many elements the product of remainders by some numbers has.
func sizeOf(powers []int) int {
	size := 1
	for _, q := range powers {
		size *= q
	}
	return size
}

// ordersBy returns the orders of all elements of the product of remainders by some numbers, each found by adding up.
func ordersBy(powers []int) []int {
	orders := []int{}
	for number := range sizeOf(powers) {
		var parts []int
		for _, q := range powers {
			parts = append(parts, number%q)
			number /= q
		}
		isZero := func(times int) bool {
			for i, q := range powers {
				if times*parts[i]%q != 0 {
					return false
				}
			}
			return true
		}
		order := 1
		for !isZero(order) {
			order++
		}
		orders = append(orders, order)
	}
	return orders
}

// orderText returns a text of orders that does not depend on their order.
func orderText(orders []int) string {
	return show(slices.Sorted(slices.Values(orders))...)
}

// groupsByOrders returns the invariants of all groups by the texts of their orders.
func groupsByOrders() map[string][]int {
	groups := map[string][]int{}
	for _, powers := range allGroups() {
		groups[orderText(ordersBy(powers))] = powers
	}
	return groups
}

// sumOrdersIn returns the orders of all elements in sums, by the table.
func sumOrdersIn(r impl.Ring) []int {
	orders := []int{}
	for a := range r.Size {
		order := 1
		for sum := a; sum != 0; sum = sumIn(r, sum, a) {
			order++
		}
		orders = append(orders, order)
	}
	return orders
}

// unitsIn returns the elements that have an inverse, by the table.
func unitsIn(r impl.Ring) []int {
	return chosen(r, func(a int) bool { return len(inverses(r, a)) > 0 })
}

// unitOrdersIn returns the orders of all units in products, by the table.
func unitOrdersIn(r impl.Ring) []int {
	orders := []int{}
	for _, u := range unitsIn(r) {
		order := 1
		for power := u; power != r.One; power = productIn(r, power, u) {
			order++
		}
		orders = append(orders, order)
	}
	return orders
}

// powersIn returns the powers of an element from the exponent 0 on, each once, among more exponents than a ring has elements.
func powersIn(r impl.Ring, a int) []int {
	var powers []int
	power := r.One
	for range 3 * impl.MaxSize {
		if !slices.Contains(powers, power) {
			powers = append(powers, power)
		}
		power = productIn(r, power, a)
	}
	return powers
}

// primitiveIn returns the least unit of which all units are powers, -1 if there is none.
func primitiveIn(r impl.Ring) int {
	units := unitsIn(r)
	return slices.IndexFunc(numbersBelow(r.Size), func(a int) bool {
		return slices.Contains(units, a) && hasEach(powersIn(r, a), units)
	})
}

// isGroup checks that InvariantsOf returns some powers and true for orders.
func isGroup(t *testing.T, orders, want []int) {
	t.Helper()
	if got, ok := impl.InvariantsOf(orders); !ok || !slices.Equal(got, want) {
		t.Errorf("InvariantsOf(%v) = %v, %v, want %v", orders, got, ok, want)
	}
}

// isNoGroup checks that InvariantsOf returns an empty slice and false for orders.
func isNoGroup(t *testing.T, orders []int) {
	t.Helper()
	if got, ok := impl.InvariantsOf(orders); len(got) != 0 || ok {
		t.Errorf("InvariantsOf(%v) = %v, %v", orders, got, ok)
	}
}

// arePowers checks what all functions of powers return for those of a group.
func arePowers(t *testing.T, powers []int, cyclic bool, exponent int, text string) {
	t.Helper()
	if got := impl.IsCyclic(powers); got != cyclic {
		t.Errorf("IsCyclic(%v) = %v", powers, got)
	}
	if got := impl.ExponentOf(powers); got != exponent {
		t.Errorf("ExponentOf(%v) = %d, want %d", powers, got, exponent)
	}
	if got := impl.FormatGroup(powers); got != text {
		t.Errorf("FormatGroup(%v) = %q, want %q", powers, got, text)
	}
}

// areNoPowers checks what all functions of powers return for others.
func areNoPowers(t *testing.T, powers []int) {
	t.Helper()
	arePowers(t, powers, false, -1, "")
}

// eachOrders visits all lists of so many of some numbers, but those that differ only in order.
func eachOrders(count int, numbers []int, visit func(orders []int)) {
	var extend func(orders []int, from int)
	extend = func(orders []int, from int) {
		if len(orders) == count {
			visit(orders)
			return
		}
		for i := from; i < len(numbers); i++ {
			extend(append(slices.Clone(orders), numbers[i]), i)
		}
	}
	extend(nil, 0)
}

// eachPowers visits all lists of at most so many of some numbers, in all orders.
func eachPowers(most int, numbers []int, visit func(powers []int)) {
	visit(nil)
	lists := [][]int{nil}
	for range most {
		var longer [][]int
		for _, list := range lists {
			for _, q := range numbers {
				longer = append(longer, append(slices.Clone(list), q))
			}
		}
		for _, list := range longer {
			visit(list)
		}
		lists = longer
	}
}

func TestInvariantsOf(t *testing.T) {
	for _, powers := range allGroups() {
		orders := ordersBy(powers)
		isGroup(t, orders, powers)
		isGroup(t, slices.Sorted(slices.Values(orders)), powers)
		next := scattered(len(orders))
		for range 20 {
			for i := range orders {
				j := next(len(orders))
				orders[i], orders[j] = orders[j], orders[i]
			}
			isGroup(t, orders, powers)
			slices.Reverse(orders)
			isGroup(t, orders, powers)
		}
	}
}

func TestInvariantsOfKnownOrders(t *testing.T) {
	for _, c := range []struct{ orders, want []int }{
		{[]int{1}, nil},
		{[]int{1, 2}, []int{2}},
		{[]int{3, 3, 1}, []int{3}},
		{[]int{2, 2, 1, 2}, []int{2, 2}},
		{[]int{4, 1, 4, 2}, []int{4}},
		{[]int{6, 3, 2, 1, 3, 6}, []int{2, 3}},
		{[]int{1, 2, 2, 2, 2, 2, 2, 2}, []int{2, 2, 2}},
		{[]int{4, 4, 4, 4, 2, 2, 2, 1}, []int{2, 4}},
		{[]int{1, 2, 4, 4, 8, 8, 8, 8}, []int{8}},
		{[]int{1, 3, 3, 3, 3, 3, 3, 3, 3}, []int{3, 3}},
		{[]int{1, 3, 3, 9, 9, 9, 9, 9, 9}, []int{9}},
		{[]int{1, 2, 3, 3, 4, 4, 6, 6, 12, 12, 12, 12}, []int{3, 4}},
		{[]int{1, 2, 2, 2, 3, 3, 6, 6, 6, 6, 6, 6}, []int{2, 2, 3}},
		{[]int{1, 2, 2, 2, 4, 4, 4, 4, 4, 4, 4, 4, 4, 4, 4, 4}, []int{4, 4}},
		{[]int{1, 2, 2, 2, 2, 2, 2, 2, 4, 4, 4, 4, 4, 4, 4, 4}, []int{2, 2, 4}},
		{[]int{1, 2, 2, 2, 4, 4, 4, 4, 8, 8, 8, 8, 8, 8, 8, 8}, []int{2, 8}},
		{[]int{1, 2, 4, 4, 8, 8, 8, 8, 16, 16, 16, 16, 16, 16, 16, 16}, []int{16}},
		{[]int{1, 2, 2, 2, 2, 2, 2, 2, 2, 2, 2, 2, 2, 2, 2, 2}, []int{2, 2, 2, 2}},
	} {
		isGroup(t, c.orders, c.want)
	}
}

// TestOrdersTellGroups checks the first half of P11 on all lists of up to 7 orders from 0 to their number plus 1, and on all lists of divisors of their number: a group has them or none has, and no two groups have the same.
func TestOrdersTellGroups(t *testing.T) {
	groups := groupsByOrders()
	if len(groups) != len(allGroups()) {
		t.Errorf("%d groups have %d lists of orders", len(allGroups()), len(groups))
	}
	found := map[string]bool{}
	visit := func(orders []int) {
		text := orderText(orders)
		powers, isOne := groups[text]
		if isOne {
			found[text] = true
			isGroup(t, orders, powers)
		} else {
			isNoGroup(t, orders)
		}
	}
	for count := 1; count <= 16; count++ {
		if count <= 7 {
			eachOrders(count, numbersBelow(count+2), visit)
		}
		divisors := slices.DeleteFunc(numbersBelow(count+1), func(d int) bool { return d == 0 || count%d != 0 })
		eachOrders(count, divisors, visit)
	}
	if len(found) != len(groups) {
		t.Errorf("%d groups were found, of %d", len(found), len(groups))
	}
}

// TestOrdersWithOneChange has the orders of all groups with one of them changed, left out or there twice.
func TestOrdersWithOneChange(t *testing.T) {
	groups := groupsByOrders()
	others := append(numbersBelow(35), 64, 256, math.MaxInt, math.MinInt, -1, -2, -16)
	check := func(orders []int) {
		if powers, isOne := groups[orderText(orders)]; isOne {
			isGroup(t, orders, powers)
		} else {
			isNoGroup(t, orders)
		}
	}
	for _, powers := range allGroups() {
		orders := ordersBy(powers)
		for i, order := range orders {
			for _, other := range append(others, -order) {
				changed := slices.Clone(orders)
				changed[i] = other
				check(changed)
			}
			check(slices.Delete(slices.Clone(orders), i, i+1))
			check(slices.Insert(slices.Clone(orders), i, order))
		}
		check(append(orders, orders...))
	}
}

// TestOrdersThatNoGroupHas has lists of wrong orders, and those of groups that are not commutative.
func TestOrdersThatNoGroupHas(t *testing.T) {
	for _, orders := range [][]int{
		{0}, {2}, {-1}, {17}, {math.MaxInt}, {math.MinInt},
		{1, 1}, {2, 2}, {1, 3}, {1, 4}, {1, 0}, {1, -2},
		{1, 2, 2}, {1, 2, 3}, {1, 3, 4}, {1, 1, 3},
		{1, 2, 2, 4}, {1, 2, 4, 4, 4}, {1, 1, 2, 2}, {1, 4, 4, 4},
		{1, 2, 2, 2, 3, 3},                   // the exchanges of three things
		{1, 2, 2, 2, 2, 2, 4, 4},             // the turns and mirrors of a square
		{1, 2, 4, 4, 4, 4, 4, 4},             // the unit quaternions
		{1, 2, 2, 2, 2, 2, 5, 5, 5, 5},       // the turns and mirrors of a pentagon
		{1, 2, 2, 2, 3, 3, 3, 3, 3, 3, 3, 3}, // the turns of a tetrahedron
		{1, 2, 3, 3, 4, 4, 4, 4, 4, 4, 6, 6},
		{1, 2, 2, 2, 2, 2, 2, 2, 2, 2, 4, 4, 8, 8, 8, 8},
		slices.Repeat([]int{1}, 16), slices.Repeat([]int{2}, 16), slices.Repeat([]int{16}, 16), make([]int, 16),
	} {
		isNoGroup(t, orders)
	}
}

// TestNumbersOfOrders has no orders, and the orders of groups of more than 16 elements, which may have valid powers.
func TestNumbersOfOrders(t *testing.T) {
	isNoGroup(t, nil)
	isNoGroup(t, []int{})
	for size := 17; size <= 130; size++ {
		isNoGroup(t, ordersBy([]int{size}))
		isNoGroup(t, make([]int, size))
		isNoGroup(t, slices.Repeat([]int{1}, size))
	}
	for _, powers := range [][]int{{2, 9}, {2, 3, 3}, {4, 5}, {2, 2, 5}, {3, 7}, {2, 11}, {3, 8}, {2, 3, 4}, {2, 2, 2, 3}, {5, 5}, {3, 9}, {4, 7}, {2, 3, 5}, {2, 16}, {4, 8}, {2, 2, 2, 2, 2}, {16, 16}, {13, 13}} {
		isNoGroup(t, ordersBy(powers))
		isNoGroup(t, ordersBy(powers)[:17])
	}
	for _, powers := range [][]int{{16}, {2, 8}, {4, 4}, {2, 2, 4}, {2, 2, 2, 2}} {
		isGroup(t, ordersBy(powers), powers)
		isNoGroup(t, append(ordersBy(powers), 1))
		isNoGroup(t, append(ordersBy(powers), 2))
		isNoGroup(t, append(ordersBy(powers), 0))
	}
	isNoGroup(t, slices.Repeat([]int{2}, 100000))
}

// TestInvariantsOfRings checks the second half of P11: the invariants of sums and of units are those of the group with the same orders.
func TestInvariantsOfRings(t *testing.T) {
	groups := groupsByOrders()
	for _, r := range splitRings() {
		sums, isGroupOfSums := groups[orderText(sumOrdersIn(r))]
		units, isGroupOfUnits := groups[orderText(unitOrdersIn(r))]
		if !isGroupOfSums || !isGroupOfUnits {
			t.Errorf("the orders in %s are %v and %v", impl.FormatRing(r), sumOrdersIn(r), unitOrdersIn(r))
		}
		isList(t, "SumInvariants", r, impl.SumInvariants(r), sums)
		isList(t, "UnitInvariants", r, impl.UnitInvariants(r), units)
		if sizeOf(sums) != r.Size || sizeOf(units) != len(impl.UnitsOf(r)) {
			t.Errorf("the sizes in %s are %d and %d", impl.FormatRing(r), sizeOf(sums), sizeOf(units))
		}
		if got := impl.ExponentOf(impl.SumInvariants(r)); got != impl.CharacteristicOf(r) {
			t.Errorf("ExponentOf the sums of %s = %d", impl.FormatRing(r), got)
		}
	}
}

func TestInvariantsOfKnownRings(t *testing.T) {
	for _, c := range []struct {
		text        string
		sums, units []int
		primitive   int
	}{
		{"1", nil, nil, 0},
		{"2", []int{2}, nil, 1},
		{"3", []int{3}, []int{2}, 2},
		{"4", []int{4}, []int{2}, 3},
		{"5", []int{5}, []int{4}, 2},
		{"6", []int{2, 3}, []int{2}, 5},
		{"7", []int{7}, []int{2, 3}, 3},
		{"8", []int{8}, []int{2, 2}, -1},
		{"9", []int{9}, []int{2, 3}, 2},
		{"10", []int{2, 5}, []int{4}, 3},
		{"11", []int{11}, []int{2, 5}, 2},
		{"12", []int{3, 4}, []int{2, 2}, -1},
		{"13", []int{13}, []int{3, 4}, 2},
		{"14", []int{2, 7}, []int{2, 3}, 3},
		{"15", []int{3, 5}, []int{2, 4}, -1},
		{"16", []int{16}, []int{2, 4}, -1},
		{"1x1", nil, nil, 0},
		{"2x2", []int{2, 2}, nil, 3},
		{"2x3", []int{2, 3}, []int{2}, 5},
		{"2x4", []int{2, 4}, []int{2}, 7},
		{"2x8", []int{2, 8}, []int{2, 2}, -1},
		{"3x3", []int{3, 3}, []int{2, 2}, -1},
		{"3x5", []int{3, 5}, []int{2, 4}, -1},
		{"4x4", []int{4, 4}, []int{2, 2}, -1},
		{"2x2x3", []int{2, 2, 3}, []int{2}, 11},
		{"2x2x2x2", []int{2, 2, 2, 2}, nil, 15},
		{"2x2x4", []int{2, 2, 4}, []int{2}, 15},
		{"2[1,1]", []int{2, 2}, []int{3}, 2},
		{"2[0,0]", []int{2, 2}, []int{2}, 3},
		{"2[1,1,0]", []int{2, 2, 2}, []int{7}, 2},
		{"2[0,0,0]", []int{2, 2, 2}, []int{4}, 3},
		{"3[1,0]", []int{3, 3}, []int{8}, 4},
		{"3[0,0]", []int{3, 3}, []int{2, 3}, 5},
		{"2[1,1,0,0]", []int{2, 2, 2, 2}, []int{3, 5}, 2},
		{"2[0,0,0,0]", []int{2, 2, 2, 2}, []int{2, 4}, -1},
		{"2[1,1]x2", []int{2, 2, 2}, []int{3}, 5},
		{"2[1,1]x3", []int{2, 2, 3}, []int{2, 3}, 8},
		{"2[1,1]x4", []int{2, 2, 4}, []int{2, 3}, 11},
		{"4[1,1]", []int{4, 4}, []int{2, 2, 3}, -1},
	} {
		r := made(t, c.text)
		isList(t, "SumInvariants by "+c.text, r, impl.SumInvariants(r), c.sums)
		isList(t, "UnitInvariants by "+c.text, r, impl.UnitInvariants(r), c.units)
		if got := impl.PrimitiveUnitOf(r); got != c.primitive {
			t.Errorf("PrimitiveUnitOf by %s = %d, want %d", c.text, got, c.primitive)
		}
	}
	flat := flatRing(4)
	isList(t, "SumInvariants of a flat ring", flat, impl.SumInvariants(flat), []int{2, 2, 2, 2})
	isList(t, "UnitInvariants of a flat ring", flat, impl.UnitInvariants(flat), []int{2, 2, 2})
}

// TestInvariantsOfProducts checks that the invariants of a product are those of both rings together, and that other numbers change none.
func TestInvariantsOfProducts(t *testing.T) {
	together := func(a, b []int) []int { return slices.Sorted(slices.Values(slices.Concat(a, b))) }
	eachPair(idealRings(), func(r, s impl.Ring) {
		both, ok := impl.ProductRing(r, s)
		if !ok {
			t.Errorf("ProductRing of %s and %s", impl.FormatRing(r), impl.FormatRing(s))
		}
		isList(t, "SumInvariants", both, impl.SumInvariants(both), together(impl.SumInvariants(r), impl.SumInvariants(s)))
		isList(t, "UnitInvariants", both, impl.UnitInvariants(both), together(impl.UnitInvariants(r), impl.UnitInvariants(s)))
	})
	for _, r := range idealRings() {
		var sums, units []int
		for _, part := range impl.SplitRing(r) {
			sums, units = together(sums, impl.SumInvariants(part)), together(units, impl.UnitInvariants(part))
		}
		isList(t, "SumInvariants of parts", r, impl.SumInvariants(r), sums)
		isList(t, "UnitInvariants of parts", r, impl.UnitInvariants(r), units)
		isList(t, "SumInvariants with other numbers", r, impl.SumInvariants(turned(r)), sums)
		isList(t, "UnitInvariants with other numbers", r, impl.UnitInvariants(turned(r)), units)
	}
}

func TestPrimitiveUnitOf(t *testing.T) {
	for _, r := range splitRings() {
		got, want := impl.PrimitiveUnitOf(r), primitiveIn(r)
		if got != want {
			t.Errorf("PrimitiveUnitOf %s = %d, want %d", impl.FormatRing(r), got, want)
		}
		if impl.IsCyclic(impl.UnitInvariants(r)) != (got != -1) {
			t.Errorf("IsCyclic of the units of %s is %v", impl.FormatRing(r), got == -1)
		}
		if got != -1 && impl.UnitOrderOf(r, got) != len(impl.UnitsOf(r)) {
			t.Errorf("UnitOrderOf the primitive unit of %s = %d", impl.FormatRing(r), impl.UnitOrderOf(r, got))
		}
		if impl.IsField(r) && got == -1 {
			t.Errorf("the field %s has no primitive unit", impl.FormatRing(r))
		}
	}
	// With other numbers, another unit is the least one, or One is.
	for _, c := range []struct {
		r    impl.Ring
		want int
	}{
		{turned(remainders(9)), 4},
		{turned(remainders(7)), 2},
		{swapped(remainders(9), 2, 8), 5},
		{swapped(remainders(3), 1, 2), 1},
		{swapped(fieldOfFour(), 1, 3), 1},
		{turned(remainders(8)), -1},
		{swapped(remainders(8), 1, 2), -1},
	} {
		if got := impl.PrimitiveUnitOf(c.r); got != c.want {
			t.Errorf("PrimitiveUnitOf %s = %d, want %d", impl.FormatRing(c.r), got, c.want)
		}
	}
}

func TestPowersOf(t *testing.T) {
	for _, r := range splitRings() {
		for a := range r.Size {
			got := impl.PowersOf(r, a)
			isList(t, "PowersOf "+show(a), r, got, powersIn(r, a))
			if order := impl.UnitOrderOf(r, a); order != -1 && order != len(got) {
				t.Errorf("PowersOf %d in %s = %v, but its order is %d", a, impl.FormatRing(r), got, order)
			}
			for exponent, power := range got {
				if impl.Power(r, a, exponent) != power {
					t.Errorf("PowersOf %d in %s = %v", a, impl.FormatRing(r), got)
				}
			}
		}
		isList(t, "PowersOf One", r, impl.PowersOf(r, r.One), []int{r.One})
	}
}

func TestPowersOfKnownElements(t *testing.T) {
	for _, c := range []struct {
		text string
		a    int
		want []int
	}{
		{"1", 0, []int{0}},
		{"2", 0, []int{1, 0}},
		{"9", 0, []int{1, 0}},
		{"9", 1, []int{1}},
		{"9", 2, []int{1, 2, 4, 8, 7, 5}},
		{"9", 3, []int{1, 3, 0}},
		{"9", 8, []int{1, 8}},
		{"8", 2, []int{1, 2, 4, 0}},
		{"16", 2, []int{1, 2, 4, 8, 0}},
		{"16", 6, []int{1, 6, 4, 8, 0}},
		{"16", 3, []int{1, 3, 9, 11}},
		{"12", 2, []int{1, 2, 4, 8}},
		{"12", 4, []int{1, 4}},
		{"12", 10, []int{1, 10, 4}},
		{"14", 2, []int{1, 2, 4, 8}},
		{"6", 2, []int{1, 2, 4}},
		{"13", 2, []int{1, 2, 4, 8, 3, 6, 12, 11, 9, 5, 10, 7}},
		{"2x2", 1, []int{3, 1}},
		{"2[1,1]", 2, []int{1, 2, 3}},
		{"2[1,1,0,0]", 2, []int{1, 2, 4, 8, 3, 6, 12, 11, 5, 10, 7, 14, 15, 13, 9}},
	} {
		r := made(t, c.text)
		isList(t, "PowersOf "+show(c.a), r, impl.PowersOf(r, c.a), c.want)
	}
}

func TestPowersOfGroups(t *testing.T) {
	for _, powers := range allGroups() {
		orders := ordersBy(powers)
		exponent := 1
		for slices.ContainsFunc(orders, func(order int) bool { return exponent%order != 0 }) {
			exponent++
		}
		text := "1"
		if len(powers) > 0 {
			text = strings.ReplaceAll(show(powers...), ",", "x")
		}
		arePowers(t, powers, slices.Contains(orders, sizeOf(powers)), exponent, text)
		r := made(t, text)
		isList(t, "SumInvariants of the ring of "+text, r, impl.SumInvariants(r), powers)
	}
	arePowers(t, nil, true, 1, "1")
	arePowers(t, []int{16}, true, 16, "16")
	arePowers(t, []int{2, 3}, true, 6, "2x3")
	arePowers(t, []int{2, 4}, false, 4, "2x4")
	arePowers(t, []int{2, 2, 3}, false, 6, "2x2x3")
	arePowers(t, []int{2, 2, 2, 2}, false, 2, "2x2x2x2")
}

// TestListsOfPowers has all lists of at most 4 numbers from -2 to 17, of which only those of groups are valid.
func TestListsOfPowers(t *testing.T) {
	valid := map[string]bool{}
	for _, powers := range allGroups() {
		valid[show(powers...)] = true
	}
	numbers := append([]int{-2, -1}, numbersBelow(18)...)
	found := 0
	eachPowers(4, numbers, func(powers []int) {
		if valid[show(powers...)] {
			found++
			if impl.ExponentOf(powers) < 1 || impl.FormatGroup(powers) == "" {
				t.Errorf("%v are valid, but have the exponent %d and the text %q", powers, impl.ExponentOf(powers), impl.FormatGroup(powers))
			}
		} else {
			areNoPowers(t, powers)
		}
	})
	if found != len(valid) {
		t.Errorf("%d of %d lists were found", found, len(valid))
	}
}

func TestNoPowers(t *testing.T) {
	for _, powers := range [][]int{
		{0}, {1}, {-1}, {-2}, {-4}, {math.MinInt}, {math.MaxInt}, {0, 0}, {1, 1}, {0, 2}, {1, 2}, {2, 0}, {2, 1}, {-2, 2},
		{6}, {10}, {12}, {14}, {15}, {2, 6}, {1, 6},
		{17}, {19}, {25}, {27}, {32}, {64}, {81}, {1 << 62}, {1 << 32},
		{3, 2}, {4, 2}, {4, 3}, {5, 3}, {8, 2}, {2, 3, 2}, {2, 4, 2}, {3, 2, 2},
		{2, 9}, {3, 7}, {4, 5}, {2, 16}, {4, 8}, {3, 8}, {5, 5}, {16, 16}, {2, 3, 3}, {2, 2, 5}, {2, 2, 8}, {2, 4, 4}, {3, 3, 3}, {2, 2, 2, 3}, {2, 2, 2, 4},
		{-4, -4}, {-2, -2, 4}, {-2, -8}, {-16, -1},
		{1 << 32, 1 << 32}, {2, 1 << 62}, {2, math.MaxInt}, {2, math.MinInt}, {4, 1 << 62}, {16, 1 << 60}, {math.MaxInt, math.MaxInt}, {math.MinInt, math.MinInt},
		{2, 2, 2, 2, 2}, {2, 2, 2, 2, 3}, {2, 2, 2, 2, 1}, {2, 2, 2, 2, 0},
	} {
		areNoPowers(t, powers)
	}
	for _, count := range []int{5, 16, 17, 31, 32, 62, 63, 64, 65, 128, 100000} {
		areNoPowers(t, slices.Repeat([]int{2}, count))
		areNoPowers(t, slices.Repeat([]int{16}, count))
		areNoPowers(t, slices.Repeat([]int{1}, count))
		areNoPowers(t, make([]int, count))
	}
}

// TestGroupsOfOne has the groups of one element: that of the ring of one element, and the units of products of the integers by 2.
func TestGroupsOfOne(t *testing.T) {
	one := remainders(1)
	isList(t, "SumInvariants", one, impl.SumInvariants(one), nil)
	for _, text := range []string{"1", "1x1", "1[0]", "2", "2x2", "2x2x2", "2x2x2x2", "2[0,1]"} {
		r := made(t, text)
		isList(t, "UnitInvariants", r, impl.UnitInvariants(r), nil)
		if got := impl.PrimitiveUnitOf(r); got != r.One {
			t.Errorf("PrimitiveUnitOf %s = %d", text, got)
		}
		if got := impl.FormatGroup(impl.UnitInvariants(r)); got != "1" {
			t.Errorf("FormatGroup of the units of %s = %q", text, got)
		}
	}
	isList(t, "PowersOf 0", one, impl.PowersOf(one, 0), []int{0})
	isGroup(t, []int{1}, nil)
	arePowers(t, []int{}, true, 1, "1")
}

func TestPowersOfNoElements(t *testing.T) {
	for _, r := range idealRings() {
		for _, a := range []int{-1, -r.Size, r.Size, r.Size + 1, 2 * r.Size, r.Size * r.Size, 16, 17, math.MaxInt, math.MinInt} {
			if got := impl.PowersOf(r, a); len(got) != 0 {
				t.Errorf("PowersOf %d in %s = %v", a, impl.FormatRing(r), got)
			}
		}
	}
}

// refusesGroups checks what all functions of a ring return for tables that are none.
func refusesGroups(t *testing.T, what string, r impl.Ring) {
	t.Helper()
	if sums, units, primitive := impl.SumInvariants(r), impl.UnitInvariants(r), impl.PrimitiveUnitOf(r); len(sums) != 0 || len(units) != 0 || primitive != -1 {
		t.Errorf("%s: SumInvariants = %v, UnitInvariants = %v, PrimitiveUnitOf = %d", what, sums, units, primitive)
	}
	for _, a := range []int{0, 1, 2, 3, 4, 16, 17, -1, r.One, r.Size, r.Size - 1, math.MaxInt, math.MinInt} {
		if got := impl.PowersOf(r, a); len(got) != 0 {
			t.Errorf("%s: PowersOf %d = %v", what, a, got)
		}
	}
}

func TestGroupsOfBadRings(t *testing.T) {
	for name, r := range badRings() {
		refusesGroups(t, name, r)
	}
	// The table that each group reads is right, and only the other one is faulty.
	sums, products := remainders(5), remainders(5)
	sums.Sums[24] = 0
	products.Products[24] = 2
	refusesGroups(t, "a faulty sum", sums)
	refusesGroups(t, "a faulty product", products)
}

// TestGroupsAgain calls the functions many times and at once, since neither other calls nor the order in which a map is gone through may show in a result.
func TestGroupsAgain(t *testing.T) {
	fields, nine := made(t, "2[1,1]x3"), remainders(9)
	orders := ordersBy([]int{2, 2, 3})
	var calling sync.WaitGroup
	for range 8 {
		calling.Go(func() {
			for range 200 {
				isGroup(t, orders, []int{2, 2, 3})
				isNoGroup(t, orders[1:])
				isList(t, "SumInvariants", fields, impl.SumInvariants(fields), []int{2, 2, 3})
				isList(t, "UnitInvariants", fields, impl.UnitInvariants(fields), []int{2, 3})
				isList(t, "PowersOf 2", nine, impl.PowersOf(nine, 2), []int{1, 2, 4, 8, 7, 5})
				arePowers(t, []int{2, 2, 3}, false, 6, "2x2x3")
				areNoPowers(t, []int{3, 2})
				if impl.PrimitiveUnitOf(nine) != 2 || impl.PrimitiveUnitOf(impl.Ring{}) != -1 {
					t.Error("another primitive unit")
				}
			}
		})
	}
	calling.Wait()
}

// TestGroupsMemory checks that arguments, and what lies behind their ends, stay as they are, and that results have memory of their own.
func TestGroupsMemory(t *testing.T) {
	plain := remainders(16)
	sums, sumsKept := guarded(plain.Sums)
	products, productsKept := guarded(plain.Products)
	orders, ordersKept := guarded([]int{6, 3, 6, 1, 2, 3})
	powers, powersKept := guarded([]int{2, 2, 3})
	wrong, wrongKept := guarded([]int{3, 2})
	kept := func() bool {
		return sumsKept() && productsKept() && ordersKept() && powersKept() && wrongKept()
	}
	r := impl.Ring{Size: 16, One: 1, Sums: sums, Products: products}
	for name, call := range map[string]func() []int{
		"InvariantsOf": func() []int {
			list, _ := impl.InvariantsOf(orders)
			return list
		},
		"SumInvariants":  func() []int { return impl.SumInvariants(r) },
		"UnitInvariants": func() []int { return impl.UnitInvariants(r) },
		"PowersOf 3":     func() []int { return impl.PowersOf(r, 3) },
		"PowersOf 0":     func() []int { return impl.PowersOf(r, 0) },
	} {
		first, again := call(), call()
		want := slices.Clone(again)
		overwrite(first)
		isList(t, name, plain, again, want)
		isList(t, name, plain, call(), want)
		if len(want) == 0 || !kept() {
			t.Errorf("%s: memory is shared or changed", name)
		}
	}
	arePowers(t, powers, false, 6, "2x2x3")
	areNoPowers(t, wrong)
	isNoGroup(t, wrong)
	if impl.PrimitiveUnitOf(r) != -1 || !kept() {
		t.Error("an argument has changed")
	}
}
