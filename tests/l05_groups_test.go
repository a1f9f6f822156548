package tests

import (
	"math"
	"slices"
	"testing"

	"loop.example/g01130/impl"
)

var (
	noGroup   = say(impl.Group{}, false)
	noElement = `0 false`
	noList    = `[] false`
)

// notElements returns numbers that are no elements of a group.
func notElements(size int) []int64 {
	return []int64{math.MinInt64, -int64(size), -1, int64(size), int64(size) + 1, 100, 1 << 32, math.MaxInt64}
}

func TestPromise6ExamplesOfTheChapter(t *testing.T) {
	g, ok := impl.DihedralGroup(5)
	expect(t, say(g.Table[5][1], ok), `9 true`)
	expect(t, say(impl.LeastComplete(g)), noList)
	order, ok := impl.LeastAntisymmetric(g)
	expect(t, say(ok, impl.IsAntisymmetric(g, order)), `true true`)
	c, _ := impl.DihedralChain(4)
	expect(t, say(impl.IsChecked(c, "2363")), `true`)
}

func TestPromise6GroupsAreGroups(t *testing.T) {
	for _, g := range renamedGroups() {
		expect(t, say(g.name, impl.ValidGroup(groupOf(g.table)), isGroup(g.table)), say(g.name, true, true))
	}
}

// All tables of at most three elements are tried.
func TestPromise6GroupsAmongAllTables(t *testing.T) {
	for size, want := range []int{1: 1, 2: 2, 3: 3} {
		if size == 0 {
			continue
		}
		count := 0
		for _, table := range tablesOver(size) {
			is := impl.ValidGroup(groupOf(table))
			if is {
				count++
			}
			if is != isGroup(table) {
				t.Errorf("%v is taken for a group: %v", table, is)
			}
		}
		expect(t, say(size, count), say(size, want))
	}
}

// There are as many groups as ways to give elements of one of each kind other names, divided by those that change nothing.
func TestPromise6GroupsAmongQuasigroups(t *testing.T) {
	for size, want := range []int{4: 24/2 + 24/6, 5: 120 / 4} {
		if size < 4 {
			continue
		}
		count := 0
		for _, table := range quasigroupsOf(int64(size)) {
			if impl.ValidGroup(groupOf(table)) {
				count++
			}
		}
		expect(t, say(size, count), say(size, want))
	}
}

func TestPromise6TablesLackWhatTheirKindSays(t *testing.T) {
	lawless := allLawless()
	hasInverses := func(table [][]int64) bool {
		return !slices.ContainsFunc(countedList(len(table)), func(x int64) bool { return slowInverse(table, x) < 0 })
	}
	left := func(table [][]int64) bool {
		return slices.ContainsFunc(table, func(row []int64) bool { return slices.Equal(row, countedList(len(table))) })
	}
	right := func(table [][]int64) bool {
		return slices.ContainsFunc(countedList(len(table)), func(y int64) bool {
			return slices.Equal(columnOf(table, int(y)), countedList(len(table)))
		})
	}
	for _, table := range lawless.brackets {
		expect(t, say(table, isBracketFree(table), slowIdentity(table) >= 0, hasInverses(table)), say(table, false, true, true))
	}
	for _, table := range lawless.noIdentity {
		expect(t, say(table, left(table), right(table)), say(table, false, false))
	}
	for _, table := range lawless.leftIdentity {
		expect(t, say(table, left(table), right(table)), say(table, true, false))
	}
	for _, table := range lawless.rightIdentity {
		expect(t, say(table, left(table), right(table)), say(table, false, true))
	}
	for _, table := range lawless.noInverse {
		expect(t, say(table, isBracketFree(table), slowIdentity(table) >= 0, hasInverses(table)), say(table, true, true, false))
	}
}

func TestPromise6InvalidGroups(t *testing.T) {
	two := groupOfText("01/10")
	for _, g := range invalidGroups() {
		identity := countedList(len(g.Table))
		expectAll(t, `false`, say(impl.ValidGroup(g)), say(impl.IsCommutative(g)), say(impl.IsComplete(g, identity)),
			say(impl.IsAntisymmetric(g, identity)), say(impl.IsComplete(g, []int64{0})), say(impl.IsAntisymmetric(g, []int64{0})))
		expectAll(t, noGroup, say(impl.ProductGroup(g, two)), say(impl.ProductGroup(two, g)), say(impl.ProductGroup(g, g)),
			say(impl.ProductGroup(g, groupOfText("0"))), say(impl.ProductGroup(groupOfText("0"), g)))
		expectAll(t, noElement, say(impl.IdentityOf(g)), say(impl.InverseIn(g, 0)), say(impl.InverseIn(g, 1)), say(impl.PowerIn(g, 0, 0)),
			say(impl.PowerIn(g, 1, 2)), say(impl.PowerIn(g, 0, 1)), say(impl.OrderIn(g, 0)), say(impl.OrderIn(g, 1)))
		expectAll(t, noList, say(impl.CentreOf(g)), say(impl.SubgroupOf(g, nil)), say(impl.SubgroupOf(g, []int64{0})),
			say(impl.LeastComplete(g)), say(impl.LeastAntisymmetric(g)))
		expectAll(t, say(impl.Chain{}, false), say(impl.GroupChain(g, [][]int64{identity}, 0)), say(impl.GroupChain(g, [][]int64{{0, 1}, {0, 1}}, 0)))
		if t.Failed() {
			t.Fatalf("with the invalid group %v", g)
		}
	}
}

// In a group, no other product can stand alone in place of one.
func TestPromise6GroupsWithOneOtherProduct(t *testing.T) {
	for _, g := range allGroups() {
		for x := range g.table {
			for y, product := range g.table[x] {
				for other := range int64(len(g.table)) {
					g.table[x][y] = other
					if impl.ValidGroup(groupOf(g.table)) != (other == product) {
						t.Errorf("%v is taken for a group, or is not", g.table)
					}
				}
				g.table[x][y] = product
			}
		}
	}
}

// Tables with other rows or columns are groups only as the laws tell.
func TestPromise6GroupsWithOtherRowsOrColumns(t *testing.T) {
	valid, invalid := 0, 0
	for i, g := range renamedGroups() {
		size := len(g.table)
		number := numbersFrom(int64(i))
		for range 40 {
			same, order := countedList(size), shuffled(number, size)
			for _, table := range [][][]int64{
				renamed(g.table, order, same, same), renamed(g.table, same, order, same), renamed(g.table, same, same, order), withNames(g.table, order),
			} {
				is := impl.ValidGroup(groupOf(table))
				if is {
					valid++
				} else {
					invalid++
				}
				if is != isGroup(table) {
					t.Errorf("%v is taken for a group: %v", table, is)
				}
			}
		}
	}
	if valid < 1000 || invalid < 1000 {
		t.Errorf("just %d groups and %d other tables have been tried", valid, invalid)
	}
}

func TestPromise6CyclicGroups(t *testing.T) {
	for n := int64(-2); n <= 12; n++ {
		g, ok := impl.CyclicGroup(n)
		if n < 1 || n > 10 {
			expect(t, say(g, ok), noGroup)
			continue
		}
		expect(t, say(g, ok), say(groupOf(linearTable(n, 1, 1, 0)), true))
		expect(t, say(impl.ValidGroup(g)), `true`)
		expect(t, say(impl.IdentityOf(g)), `0 true`)
		expect(t, say(impl.OrderIn(g, n-1)), say(n, true))
	}
	for _, n := range []int64{math.MinInt64, -1 << 32, 37, 1 << 32, 1<<32 + 1, math.MaxInt64} {
		expect(t, say(impl.CyclicGroup(n)), noGroup)
	}
}

func TestPromise6DihedralGroups(t *testing.T) {
	for n := int64(-2); n <= 12; n++ {
		g, ok := impl.DihedralGroup(n)
		if n < 1 || n > 5 {
			expect(t, say(g, ok), noGroup)
			continue
		}
		expect(t, say(g, ok), say(groupOf(dihedralTable(n)), true))
		expect(t, say(impl.ValidGroup(g), impl.IsCommutative(g)), say(true, n <= 2))
		for x := range n {
			expect(t, say(impl.OrderIn(g, n+x)), `2 true`)
		}
	}
	for _, n := range []int64{math.MinInt64, -1 << 32, 37, 1 << 32, 1<<32 + 1, math.MaxInt64, math.MinInt64 + 1, 1 << 62} {
		expect(t, say(impl.DihedralGroup(n)), noGroup)
	}
	for n, want := range []string{1: "01/10", 2: "0123/1032/2301/3210", 3: "012345/120453/201534/354021/435102/543210"} {
		if n > 0 {
			g, _ := impl.DihedralGroup(int64(n))
			expect(t, textOf(g.Table), want)
		}
	}
	five, _ := impl.DihedralGroup(5)
	expect(t, textOf(five.Table), "0123456789/1234067895/2340178956/3401289567/4012395678/5987604321/6598710432/7659821043/8765932104/9876543210")
}

func TestPromise6ProductsOfGroups(t *testing.T) {
	made := 0
	for _, g := range renamedGroups() {
		for _, h := range renamedGroups() {
			product, ok := impl.ProductGroup(groupOf(g.table), groupOf(h.table))
			if len(g.table)*len(h.table) > 10 {
				if ok || len(product.Table) > 0 {
					t.Errorf("%s and %s have a product with too many elements", g.name, h.name)
				}
				continue
			}
			made++
			expect(t, say(product, ok), say(groupOf(slowProduct(g.table, h.table)), true))
			if !isGroup(product.Table) || !impl.ValidGroup(product) {
				t.Errorf("the product of %v and %v is no group", g.table, h.table)
			}
			expect(t, say(impl.IsCommutative(product)), say(g.commutative && h.commutative))
			e, _ := impl.IdentityOf(product)
			expect(t, say(e), say(slowIdentity(g.table)*int64(len(h.table))+slowIdentity(h.table)))
		}
	}
	if made < 500 {
		t.Errorf("just %d products have been made", made)
	}
}

func TestPromise6SizesOfProducts(t *testing.T) {
	for n := int64(1); n <= 10; n++ {
		for m := int64(1); m <= 10; m++ {
			g, _ := impl.CyclicGroup(n)
			h, _ := impl.CyclicGroup(m)
			product, ok := impl.ProductGroup(g, h)
			expect(t, say(n, m, len(product.Table), ok), say(n, m, map[bool]int64{true: n * m}[n*m <= 10], n*m <= 10))
		}
	}
	eleven := groupOf(linearTable(11, 1, 1, 0))
	expectAll(t, noGroup, say(impl.ProductGroup(eleven, groupOfText("0"))), say(impl.ProductGroup(groupOfText("0"), eleven)))
	product, ok := impl.ProductGroup(groupOfText("01/10"), groupOfText("012/120/201"))
	expect(t, say(textOf(product.Table), ok), `"012345/120453/201534/345012/453120/534201" true`)
	product, ok = impl.ProductGroup(groupOfText("012/120/201"), groupOfText("10/01"))
	expect(t, say(textOf(product.Table), ok), `"103254/012345/325410/234501/541032/450123" true`)
}

func TestPromise6IdentitiesAndInverses(t *testing.T) {
	other := 0
	for _, g := range renamedGroups() {
		group, want := groupOf(g.table), slowIdentity(g.table)
		expect(t, say(impl.IdentityOf(group)), say(want, true))
		if want > 0 {
			other++
		}
		for x := range int64(len(g.table)) {
			inverse, ok := impl.InverseIn(group, x)
			expect(t, say(x, inverse, ok), say(x, slowInverse(g.table, x), true))
			expect(t, say(g.table[x][inverse], g.table[inverse][x]), say(want, want))
		}
	}
	if other < 30 {
		t.Errorf("just %d groups have another identity than 0", other)
	}
}

func TestPromise6WhatIsNoElement(t *testing.T) {
	for _, g := range renamedGroups() {
		group := groupOf(g.table)
		for _, x := range notElements(len(g.table)) {
			expectAll(t, noElement, say(impl.InverseIn(group, x)), say(impl.OrderIn(group, x)), say(impl.PowerIn(group, x, 0)), say(impl.PowerIn(group, x, 1)),
				say(impl.PowerIn(group, x, impl.MaxValue)))
			expectAll(t, noList, say(impl.SubgroupOf(group, []int64{x})), say(impl.SubgroupOf(group, []int64{0, x})), say(impl.SubgroupOf(group, []int64{x, 0})),
				say(impl.SubgroupOf(group, []int64{0, x, 0})))
		}
		if t.Failed() {
			t.Fatalf("with the group %v", g.table)
		}
	}
}

func TestPromise6OrdersOfElements(t *testing.T) {
	for _, g := range renamedGroups() {
		group, identity := groupOf(g.table), slowIdentity(g.table)
		for x := range int64(len(g.table)) {
			want := int64(1)
			for slowPower(g.table, x, want) != identity {
				want++
			}
			expect(t, say(x)+" "+say(impl.OrderIn(group, x)), say(x, want, true))
			expect(t, say(int64(len(g.table))%want), `0`)
		}
		expect(t, say(impl.OrderIn(group, identity)), `1 true`)
	}
	for text, want := range map[string][]int64{
		"0": {1}, "01/10": {1, 2}, "10/01": {2, 1}, "012/120/201": {1, 3, 3}, "0123/1230/2301/3012": {1, 4, 2, 4}, "0123/1032/2301/3210": {1, 2, 2, 2},
		quaternionText: {1, 4, 2, 4, 4, 4, 4, 4},
	} {
		for x, order := range want {
			expect(t, say(text, x)+" "+say(impl.OrderIn(groupOfText(text), int64(x))), say(text, x, order, true))
		}
	}
}

func TestPromise6PowersAreProductsOfAsManyElements(t *testing.T) {
	for _, g := range renamedGroups() {
		group := groupOf(g.table)
		for x := range int64(len(g.table)) {
			product := slowIdentity(g.table)
			for n := range int64(25) {
				expect(t, say(x, n)+" "+say(impl.PowerIn(group, x, n)), say(x, n, product, true))
				product = g.table[x][product]
			}
			order, _ := impl.OrderIn(group, x)
			expect(t, say(impl.PowerIn(group, x, order)), say(slowIdentity(g.table), true))
			for _, n := range []int64{order - 1, order + 1, 1 << 32, 1<<32 + 1, 123456789012345, impl.MaxValue - 1, impl.MaxValue} {
				expect(t, say(x, n)+" "+say(impl.PowerIn(group, x, n)), say(x, n, slowPower(g.table, x, n), true))
			}
			for _, n := range []int64{math.MinInt64, -impl.MaxValue, -order, -1, impl.MaxValue + 1, math.MaxInt64} {
				expect(t, say(x, n)+" "+say(impl.PowerIn(group, x, n)), say(x, n)+" "+noElement)
			}
		}
	}
}

func TestPromise6CentresAreWhatCommutesWithAll(t *testing.T) {
	for _, g := range renamedGroups() {
		group, want := groupOf(g.table), slowCentre(g.table)
		expect(t, say(impl.CentreOf(group)), say(want, true))
		expect(t, say(g.name, impl.IsCommutative(group)), say(g.name, g.commutative))
		expect(t, say(len(want) == len(g.table)), say(g.commutative))
	}
	for n, want := range []string{1: "[0 1] true", 2: "[0 1 2 3] true", 3: "[0] true", 4: "[0 2] true", 5: "[0] true"} {
		if n > 0 {
			g, _ := impl.DihedralGroup(int64(n))
			expect(t, say(impl.CentreOf(g)), want)
		}
	}
	expect(t, say(impl.CentreOf(groupOfText(quaternionText))), `[0 2] true`)
	expect(t, say(impl.CentreOf(groupOf(withNames(dihedralTable(4), []int64{7, 0, 6, 1, 5, 2, 4, 3})))), `[6 7] true`)
	expect(t, say(impl.CentreOf(groupOfText("0"))), `[0] true`)
}

// someElements returns lists of elements: all of at most three, and some longer ones.
func someElements(size int, seed int64) [][]int64 {
	lists := [][]int64{nil, {}, countedList(size)}
	for x := range int64(size) {
		lists = append(lists, []int64{x}, []int64{x, x}, slices.Repeat([]int64{x}, 10))
		for y := range int64(size) {
			lists = append(lists, []int64{x, y}, []int64{x, y, x})
			for z := range int64(size) {
				lists = append(lists, []int64{x, y, z})
			}
		}
	}
	number := numbersFrom(seed)
	for length := 4; length <= 10; length++ {
		list := []int64{}
		for range length {
			list = append(list, number(int64(size)))
		}
		lists = append(lists, list)
	}
	return lists
}

func TestPromise6SubgroupsAreAllProducts(t *testing.T) {
	for i, g := range renamedGroups() {
		group := groupOf(g.table)
		for _, elements := range someElements(len(g.table), int64(i)) {
			subgroup, ok := impl.SubgroupOf(group, elements)
			if want := slowSubgroup(g.table, elements); !ok || !slices.Equal(subgroup, want) {
				t.Fatalf("in %v, %v have the products %v, not %v", g.table, elements, subgroup, want)
			}
			if again, _ := impl.SubgroupOf(group, subgroup); !slices.Equal(again, subgroup) {
				t.Errorf("in %v, %v have the products %v", g.table, subgroup, again)
			}
		}
		expect(t, say(impl.SubgroupOf(group, nil)), say([]int64{slowIdentity(g.table)}, true))
		expect(t, say(impl.SubgroupOf(group, countedList(len(g.table)))), say(countedList(len(g.table)), true))
	}
}

func TestPromise6SubgroupsOfSomeLists(t *testing.T) {
	five, _ := impl.DihedralGroup(5)
	four, _ := impl.DihedralGroup(4)
	ten, _ := impl.CyclicGroup(10)
	for _, c := range []struct {
		g        impl.Group
		elements []int64
		want     []int64
	}{
		{five, nil, []int64{0}}, {five, []int64{0}, []int64{0}}, {five, []int64{5}, []int64{0, 5}}, {five, []int64{9, 9}, []int64{0, 9}},
		{five, []int64{3}, []int64{0, 1, 2, 3, 4}}, {five, []int64{6, 5}, countedList(10)}, {five, []int64{1, 9}, countedList(10)},
		{four, []int64{2}, []int64{0, 2}}, {four, []int64{6, 2}, []int64{0, 2, 4, 6}}, {four, []int64{7, 5}, []int64{0, 2, 5, 7}}, {four, []int64{4, 5}, countedList(8)},
		{ten, []int64{4}, []int64{0, 2, 4, 6, 8}}, {ten, []int64{5}, []int64{0, 5}}, {ten, []int64{5, 8}, countedList(10)}, {ten, []int64{7}, countedList(10)},
		{groupOfText(quaternionText), []int64{6}, []int64{0, 2, 4, 6}}, {groupOfText(quaternionText), []int64{1, 4}, countedList(8)},
		{groupOfText("10/01"), nil, []int64{1}}, {groupOfText("10/01"), []int64{0}, []int64{0, 1}}, {groupOfText("0"), []int64{0, 0}, []int64{0}},
	} {
		expect(t, say(c.elements)+" "+say(impl.SubgroupOf(c.g, c.elements)), say(c.elements, c.want, true))
	}
	for _, g := range []impl.Group{five, four, ten, groupOfText("0"), groupOfText("10/01")} {
		identity, _ := impl.IdentityOf(g)
		for length := 8; length <= 10; length++ {
			expect(t, say(impl.SubgroupOf(g, slices.Repeat([]int64{identity}, length))), say([]int64{identity}, true))
		}
		for _, length := range []int{11, 12, 20, 1000} {
			expect(t, say(impl.SubgroupOf(g, slices.Repeat([]int64{identity}, length))), noList)
		}
	}
	expect(t, say(impl.SubgroupOf(ten, append(countedList(10), 0))), noList)
}

func TestPromise6MadeGroupsHaveMemoryOfTheirOwn(t *testing.T) {
	g, h := groupOfText("01/10"), groupOfText("0")
	elements := []int64{1, 0}
	product, _ := impl.ProductGroup(g, h)
	subgroup, _ := impl.SubgroupOf(g, elements)
	first, _ := impl.CyclicGroup(3)
	want := say(product, subgroup, first)
	g.Table[0][0], elements[0] = 7, 8
	other, _ := impl.CyclicGroup(3)
	other.Table[0][0], other.Table[2] = 9, nil
	expect(t, say(product, subgroup, first), want)
	subgroup[0] = 5
	expect(t, say(elements), `[8 0]`)
}
