package tests

import (
	"math"
	"slices"
	"testing"

	"loop.example/g01130/impl"
)

func TestPromise5ClashesAreThoseOfAllPairs(t *testing.T) {
	for _, table := range append(someQuasigroups(), quasigroupsOf(4)...) {
		swaps, okSwaps := impl.SwapClashes(table)
		chains, okChains := impl.ChainClashes(table)
		want := []int64{slowSwapClashes(table), slowChainClashes(table)}
		if !okSwaps || !okChains || swaps != want[0] || chains != want[1] {
			t.Errorf("%v has %d and %d clashes, not %v", table, swaps, chains, want)
		}
		if impl.IsTotally(table) != isTotal(table) {
			t.Errorf("%v is totally antisymmetric: %v", table, isTotal(table))
		}
	}
}

// behind tells the clashes behind each number.
func TestPromise5ClashesOfSomeTables(t *testing.T) {
	for _, c := range []struct {
		text   string
		swaps  int64
		behind []int64
	}{
		{"0", 0, []int64{0}}, {"01/10", 1, []int64{1, 1}}, {"10/01", 1, []int64{1, 1}},
		// There are none; none but those of swaps; none but those behind numbers.
		{"012/201/120", 0, []int64{0, 0, 0}}, {"0123/2301/3210/1032", 0, []int64{0, 0, 0, 0}},
		{"021/210/102", 3, []int64{0, 0, 0}}, {"0132/2310/3201/1023", 2, []int64{0, 0, 0, 0}}, {"01243/20314/14032/43120/32401", 3, []int64{0, 0, 0, 0, 0}},
		{"021/102/210", 0, []int64{3, 3, 3}}, {"0132/2310/1023/3201", 0, []int64{2, 2, 2, 2}},
		// All pairs commute, and their swaps have no effect behind any number.
		{"012/120/201", 3, []int64{3, 3, 3}}, {"0123/1032/2301/3210", 6, []int64{6, 6, 6, 6}},
		// One pair alone commutes.
		{"0123/1230/3012/2301", 1, []int64{1, 1, 1, 1}}, {"01243/23401/30124/42310/14032", 1, []int64{0, 2, 0, 0, 0}},
		{"01234/10342/32401/43120/24013", 1, []int64{1, 1, 4, 4, 4}},
		// There are clashes behind one number alone, be it the first one or another one.
		{"01234/23041/10423/42310/34102", 2, []int64{2, 0, 0, 0, 0}}, {"01234/20341/34120/43012/12403", 0, []int64{0, 0, 0, 2, 0}},
		{"01234/20341/34120/42013/13402", 0, []int64{0, 3, 0, 4, 1}}, {"01243/20134/32401/14320/43012", 0, []int64{5, 3, 1, 2, 1}},
	} {
		table := tableOf(c.text)
		sum := int64(0)
		for number, clashes := range c.behind {
			expect(t, say(c.text, number, slowClashesBehind(table, number)), say(c.text, number, clashes))
			sum += clashes
		}
		expect(t, say(c.text)+" "+say(impl.SwapClashes(table)), say(c.text, c.swaps, true))
		expect(t, say(c.text)+" "+say(impl.ChainClashes(table)), say(c.text, sum, true))
		expect(t, say(c.text, impl.IsTotally(table)), say(c.text, c.swaps == 0 && sum == 0))
	}
	all := linearTable(36, 1, 1, 0)
	expect(t, say(impl.SwapClashes(all)), say(36*35/2, true))
	expect(t, say(impl.ChainClashes(all)), say(36*36*35/2, true))
}

// The same names for rows, columns and numbers change no clash.
func TestPromise5ClashesDoNotDependOnNames(t *testing.T) {
	for i, table := range someQuasigroups() {
		order := shuffled(numbersFrom(int64(i)), len(table))
		named, _ := impl.RenameTable(table, order, order, order)
		expect(t, say(impl.SwapClashes(named)), say(impl.SwapClashes(table)))
		expect(t, say(impl.ChainClashes(named)), say(impl.ChainClashes(table)))
		mirror, _ := impl.TurnTable(table, 0)
		expect(t, say(impl.SwapClashes(mirror)), say(impl.SwapClashes(table)))
	}
}

func divisorOf(a, b int64) int64 {
	for b != 0 {
		a, b = b, a%b
	}
	return a
}

// pairsWithDifference counts the pairs x < y whose difference times a factor is divided by the order.
func pairsWithDifference(order, factor int64) int64 {
	pairs := int64(0)
	for y := range order {
		for x := range y {
			if (y-x)*factor%order == 0 {
				pairs++
			}
		}
	}
	return pairs
}

func TestPromise5LinearTables(t *testing.T) {
	made, total := 0, 0
	for order := int64(1); order <= 36; order++ {
		for a := range order {
			for b := range order {
				c := (a*7 + b*3) % order
				table, ok := impl.LinearTable(order, a, b, c)
				if divisorOf(a, order) > 1 || divisorOf(b, order) > 1 {
					expect(t, say(order, a, b, table, ok), say(order, a, b, [][]int64{}, false))
					continue
				}
				made++
				expect(t, say(table, ok), say(linearTable(order, a, b, c), true))
				is := divisorOf((a-b+order)%order, order) == 1 && divisorOf((a-1+order)%order, order) == 1
				if is {
					total++
				}
				if impl.IsTotally(table) != is {
					t.Errorf("%d x + %d y + %d modulo %d is totally antisymmetric: %v", a, b, c, order, is)
				}
			}
		}
	}
	if made < 3000 || total < 1000 {
		t.Errorf("just %d quasigroups have been made, %d of them totally antisymmetric", made, total)
	}
}

func TestPromise5ClashesOfLinearTables(t *testing.T) {
	for order := int64(1); order <= 36; order++ {
		for seed := range int64(12) {
			number := numbersFrom(order*100 + seed)
			a, b, c := number(order), number(order), number(order)
			table, ok := impl.LinearTable(order, a, b, c)
			if !ok {
				continue
			}
			expect(t, say(order, a, b)+" "+say(impl.SwapClashes(table)), say(order, a, b, pairsWithDifference(order, a-b), true))
			expect(t, say(order, a, b)+" "+say(impl.ChainClashes(table)), say(order, a, b, order*pairsWithDifference(order, a-1), true))
		}
	}
}

func TestPromise5CoefficientsOfLinearTables(t *testing.T) {
	for _, c := range []struct {
		n, a, b, c int64
		want       string
	}{
		{1, 0, 0, 0, "0"}, {2, 1, 1, 0, "01/10"}, {2, 1, 1, 1, "10/01"}, {3, 1, 1, 0, "012/120/201"}, {3, 1, 2, 0, "021/102/210"}, {3, 2, 1, 0, "012/201/120"},
		{3, 2, 2, 0, "021/210/102"}, {3, 2, 1, 2, "201/120/012"}, {4, 1, 3, 0, "0321/1032/2103/3210"}, {4, 3, 1, 3, "3012/2301/1230/0123"},
		{5, 2, 1, 0, "01234/23401/40123/12340/34012"}, {5, 1, 4, 4, "43210/04321/10432/21043/32104"},
	} {
		table, ok := impl.LinearTable(c.n, c.a, c.b, c.c)
		expect(t, say(textOf(table), ok), say(c.want, true))
	}
	for _, c := range [][4]int64{
		// A coefficient is 0, or has a divisor in common with the order.
		{2, 0, 1, 0}, {2, 1, 0, 0}, {2, 0, 0, 1}, {3, 0, 1, 0}, {3, 1, 0, 2}, {4, 2, 1, 0}, {4, 1, 2, 0}, {4, 2, 2, 0}, {6, 1, 3, 0}, {6, 3, 1, 0}, {6, 2, 5, 0},
		{10, 5, 3, 0}, {10, 3, 4, 0}, {35, 7, 1, 0}, {36, 2, 1, 0}, {36, 1, 33, 0}, {36, 9, 35, 0}, {36, 35, 4, 35},
		// A number is negative, or not less than the order.
		{1, 1, 0, 0}, {1, 0, 1, 0}, {1, 0, 0, 1}, {1, -1, 0, 0}, {1, 0, 0, -1}, {2, 3, 1, 0}, {2, 1, 3, 0}, {2, 1, 1, 2}, {3, -1, 1, 0}, {3, 2, -2, 0}, {3, 2, 1, -1},
		{3, 3, 1, 0}, {3, 4, 1, 0}, {3, 2, 3, 0}, {3, 2, 4, 0}, {3, 2, 1, 3}, {36, 37, 1, 0}, {36, 1, 37, 0}, {36, 1, 1, 36}, {5, 2, 1, math.MaxInt64}, {5, math.MinInt64, 1, 0},
		{5, 1, math.MaxInt64, 0}, {5, 2, 1, math.MinInt64}, {5, math.MaxInt64, math.MaxInt64, math.MaxInt64}, {3, 1<<32 + 1, 1, 0},
		// The order is none.
		{0, 0, 0, 0}, {-1, 0, 0, 0}, {-3, -1, -2, 0}, {37, 1, 1, 0}, {37, 2, 1, 36}, {38, 1, 1, 0}, {64, 1, 1, 0}, {1 << 32, 1, 1, 0},
		{math.MinInt64, 0, 0, 0}, {math.MaxInt64, 1, 1, 0}, {0, 1, 1, 0},
	} {
		expect(t, say(c)+" "+say(impl.LinearTable(c[0], c[1], c[2], c[3])), say(c)+" "+noTable)
	}
}

// slowProduct goes through all x, u and y, v.
func slowProduct(s, t [][]int64) [][]int64 {
	m := len(t)
	product := linearTable(int64(len(s)*m), 0, 0, 0)
	for x, rowOfS := range s {
		for y, one := range rowOfS {
			for u, rowOfT := range t {
				for v, other := range rowOfT {
					product[x*m+u][y*m+v] = one*int64(m) + other
				}
			}
		}
	}
	return product
}

// factors are quasigroups whose products are made with one another.
func factors() [][][]int64 {
	tables := [][][]int64{
		{{0}}, tableOf("10/01"), tableOf("012/201/120"), tableOf("021/210/102"), tableOf("021/102/210"), tableOf("0123/2301/3210/1032"),
		tableOf("0123/1230/3012/2301"), tableOf("01234/20341/14023/43102/32410"), linearTable(5, 2, 1, 3), tableOf("01234/20341/34120/43012/12403"),
	}
	for order := 6; order <= 12; order++ {
		tables = append(tables, mixedTable(int64(order), order))
	}
	return append(tables, linearTable(7, 3, 1, 0), linearTable(11, 2, 1, 0), linearTable(18, 1, 5, 2), linearTable(36, 5, 1, 0))
}

// Two numbers of a product clash if those of both factors do, or are equal.
func TestPromise5ProductsAreAntisymmetricIfBothFactorsAre(t *testing.T) {
	made, total := 0, 0
	for _, s := range factors() {
		for _, u := range factors() {
			product, ok := impl.ProductTable(s, u)
			n, m := int64(len(s)), int64(len(u))
			if n*m > 36 {
				expect(t, say(n, m, product, ok), say(n, m, [][]int64{}, false))
				continue
			}
			made++
			expect(t, say(product, ok), say(slowProduct(s, u), true))
			swaps := ((n+2*slowSwapClashes(s))*(m+2*slowSwapClashes(u)) - n*m) / 2
			expect(t, say(impl.SwapClashes(product)), say(swaps, true))
			chains := ((n*n+2*slowChainClashes(s))*(m*m+2*slowChainClashes(u)) - n*n*m*m) / 2
			expect(t, say(impl.ChainClashes(product)), say(chains, true))
			is := isTotal(s) && isTotal(u)
			if is {
				total++
			}
			expect(t, say(textOf(s), textOf(u), impl.IsTotally(product)), say(textOf(s), textOf(u), is))
		}
	}
	if made < 100 || total < 20 {
		t.Errorf("just %d products have been made, %d of them totally antisymmetric", made, total)
	}
}

func TestPromise5ProductsOfTheGreatestOrder(t *testing.T) {
	for _, orders := range [][2]int{{1, 36}, {36, 1}, {2, 18}, {18, 2}, {3, 12}, {12, 3}, {4, 9}, {9, 4}, {6, 6}} {
		s, u := mixedTable(1, orders[0]), mixedTable(2, orders[1])
		product, ok := impl.ProductTable(s, u)
		expect(t, say(product, ok), say(slowProduct(s, u), true))
		if !isLatin(product) {
			t.Errorf("the product of the orders %v is no quasigroup", orders)
		}
	}
	for _, orders := range [][2]int{{1, 37}, {37, 1}, {2, 19}, {19, 2}, {3, 13}, {13, 3}, {5, 8}, {8, 5}, {6, 7}, {7, 6}, {36, 2}, {2, 36}, {36, 36}, {0, 5}, {5, 0}} {
		expect(t, say(orders)+" "+say(impl.ProductTable(linearTable(int64(orders[0]), 1, 1, 0), linearTable(int64(orders[1]), 1, 1, 0))), say(orders)+" "+noTable)
	}
	product, ok := impl.ProductTable(tableOf("01/10"), tableOf("012/201/120"))
	expect(t, say(textOf(product), ok), `"012345/201534/120453/345012/534201/453120" true`)
	product, ok = impl.ProductTable(tableOf("012/201/120"), tableOf("01/10"))
	expect(t, say(textOf(product), ok), `"012345/103254/450123/541032/234501/325410" true`)
}

func TestPromise5FirstTablesAndCountsAreThoseOfAllTables(t *testing.T) {
	for order := int64(1); order <= 5; order++ {
		var first [][]int64
		count := int64(0)
		for _, table := range quasigroupsOf(order) {
			is := isTotal(table)
			if is {
				count++
			}
			if is && first == nil {
				first = table
			}
			if impl.IsTotally(table) != is {
				t.Errorf("%v is totally antisymmetric: %v", table, is)
			}
		}
		expect(t, say(order)+" "+say(impl.FirstTotally(order)), say(order, first, first != nil))
		if order <= 4 {
			expect(t, say(order)+" "+say(impl.CountTotally(order)), say(order, count, true))
		}
	}
}

func TestPromise5FirstTables(t *testing.T) {
	for order, want := range []string{1: "0", 3: "012/201/120", 4: "0123/2301/3210/1032", 5: "01234/20341/14023/43102/32410"} {
		if want == "" {
			continue
		}
		first, ok := impl.FirstTotally(int64(order))
		expect(t, say(textOf(first), ok), say(want, true))
		expect(t, say(impl.SwapClashes(first))+say(impl.ChainClashes(first)), `0 true0 true`)
	}
	for _, order := range []int64{math.MinInt64, -1, 0, 2, 6, 7, 36, 37, 1 << 32, 1<<32 + 3, math.MaxInt64} {
		expect(t, say(order)+" "+say(impl.FirstTotally(order)), say(order)+" "+noTable)
	}
}

func TestPromise5Counts(t *testing.T) {
	for order, want := range []int64{1: 1, 2: 0, 3: 3, 4: 16} {
		if order > 0 {
			expect(t, say(impl.CountTotally(int64(order))), say(want, true))
		}
	}
	for _, order := range []int64{math.MinInt64, -1, 0, 5, 6, 36, 37, 1 << 32, 1<<32 + 3, math.MaxInt64} {
		expect(t, say(impl.CountTotally(order)), `0 false`)
	}
}

func TestPromise5ChainsHaveTheTableAtAllPlaces(t *testing.T) {
	for _, table := range someQuasigroups() {
		order := int64(len(table))
		most, words := 0, int64(1)
		for order > 1 && most < 20 && words*order <= impl.MaxWords {
			most++
			words *= order
		}
		for _, places := range []int{-1, 0, 1, 2, most, most + 1, 20, 21} {
			want, ok := impl.Chain{}, places >= 1 && places <= most
			if ok {
				want = impl.Chain{Base: order, States: order, Tables: [][][]int64{table}, Places: make([]int64, places)}
			}
			c, made := impl.TableChain(table, int64(places))
			if say(c, made) != say(want, ok) || impl.ValidChain(c) != ok {
				t.Errorf("with %d places: %v %v", places, c, made)
			}
		}
	}
}

func TestPromise5PlacesOfChains(t *testing.T) {
	none := say(impl.Chain{}, false)
	// The greatest numbers of places at which words are not too many.
	for order, most := range []int64{2: 20, 3: 20, 4: 20, 5: 20, 6: 19, 7: 17, 10: 15, 31: 10, 32: 9, 36: 9} {
		if most == 0 {
			continue
		}
		table := linearTable(int64(order), 1, 1, 0)
		for places := range int64(23) {
			c, ok := impl.TableChain(table, places)
			expect(t, say(order, places, len(c.Places), ok), say(order, places, map[bool]int64{true: places}[places <= most], places >= 1 && places <= most))
		}
		expectAll(t, none, say(impl.TableChain(table, math.MinInt64)), say(impl.TableChain(table, -1)), say(impl.TableChain(table, 0)),
			say(impl.TableChain(table, most+1)), say(impl.TableChain(table, 1<<32+1)), say(impl.TableChain(table, math.MaxInt64)))
	}
	for places := int64(-1); places <= 21; places++ {
		expect(t, say(impl.TableChain(tableOf("0"), places)), none)
	}
}

// Words lead to the number that one finds by going through them from the left.
func TestPromise5ChainsCheckTheWordsThatEndIn0(t *testing.T) {
	for _, text := range append(writtenTables[:2:2], "01/10", "021/102/210", "012/201/120", "01234/20341/14023/43102/32410") {
		table := tableOf(text)
		c, _ := impl.TableChain(table, 4)
		checked := 0
		for _, word := range wordsOver(int64(len(table)), 4) {
			number := int64(0)
			for _, symbol := range word {
				number = table[number][symbol-'0']
			}
			if number == 0 {
				checked++
			}
			expect(t, say(word, impl.IsChecked(c, word)), say(word, number == 0))
		}
		expect(t, say(checked), say(len(table)*len(table)*len(table)))
	}
}

func TestPromise5ChainsCatchAllSingleErrors(t *testing.T) {
	for _, table := range someQuasigroups() {
		if len(table) == 1 {
			continue
		}
		for _, places := range []int64{1, 2, 5} {
			c, _ := impl.TableChain(table, places)
			if !impl.IsCaught(c, impl.ErrSingle) {
				t.Errorf("%v with %d places does not catch all single errors", table, places)
			}
		}
	}
}

// With the symbol in front, all numbers come, each by one symbol; the last symbol makes a word checked.
// Each clash is undetected in both directions.
func TestPromise5UndetectedSwapsAreThoseThatClash(t *testing.T) {
	tables := slices.Concat(quasigroupsOf(2), quasigroupsOf(3), quasigroupsOf(4), [][][]int64{
		tableOf("01243/23401/30124/42310/14032"), tableOf("01234/20341/34120/43012/12403"), tableOf("01234/23041/10423/42310/34102"),
		tableOf("01234/20341/14023/43102/32410"), linearTable(5, 2, 1, 3), linearTable(6, 5, 1, 0), linearTable(7, 3, 1, 0),
	})
	for _, table := range tables {
		c, _ := impl.TableChain(table, 4)
		order := int64(len(table))
		all := order * order * (order - 1)
		chains, _ := impl.ChainClashes(table)
		expect(t, say(impl.UndetectedAt(c, impl.ErrSwap, 1)), say(2*chains, all, true))
		expect(t, say(impl.UndetectedAt(c, impl.ErrSwap, 0)), say(2*order*slowClashesBehind(table, 0), all, true))
		swaps, _ := impl.SwapClashes(table)
		expect(t, say(impl.UndetectedAt(pairChain(table, 3), impl.ErrSwap, 0)), say(2*swaps, order*(order-1), true))
		expect(t, say(impl.IsTotally(table)), say(swaps == 0 && impl.IsCaught(c, impl.ErrSwap) && impl.IsCaught(pairChain(table, 3), impl.ErrSwap)))
		if t.Failed() {
			t.Fatalf("with the table %s", textOf(table))
		}
	}
}

// All words and all errors are gone through one by one.
func TestPromise5UndetectedSwapsOfAllWords(t *testing.T) {
	for _, table := range slices.Concat(quasigroupsOf(2), quasigroupsOf(3), quasigroupsOf(4)[:40], quasigroupsOf(4)[400:420]) {
		for places := int64(1); places <= 4; places++ {
			c, _ := impl.TableChain(table, places)
			report := reportOf(c, impl.ErrSwap)
			clashes, _ := impl.ChainClashes(table)
			if places == 4 && report.undetectedAt[1] != 2*clashes {
				t.Errorf("%v has %d undetected swaps and %d clashes", table, report.undetectedAt[1], clashes)
			}
			if impl.IsTotally(table) && report.undetected > 0 {
				t.Errorf("%v is totally antisymmetric, and %d swaps are undetected", table, report.undetected)
			}
		}
	}
}

func TestPromise5TotallyAntisymmetricTablesCatchAllSwaps(t *testing.T) {
	tables := [][][]int64{}
	for _, order := range []int64{3, 4, 5} {
		first, _ := impl.FirstTotally(order)
		tables = append(tables, first)
	}
	for _, order := range []int64{7, 11, 35} {
		linear, _ := impl.LinearTable(order, 2, 1, order-1)
		tables = append(tables, linear)
	}
	product, _ := impl.ProductTable(tables[0], tables[1])
	great, _ := impl.ProductTable(tables[2], linearTable(7, 3, 1, 0))
	for _, table := range append(tables, product, great) {
		expect(t, say(impl.IsTotally(table)), `true`)
		for _, places := range []int64{1, 2, 3, 5, 9} {
			c, _ := impl.TableChain(table, places)
			expect(t, say(len(table), places, impl.IsCaught(c, impl.ErrSingle), impl.IsCaught(c, impl.ErrSwap)), say(len(table), places, true, true))
		}
	}
}
