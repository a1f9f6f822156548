package tests

import (
	"math"
	"slices"
	"testing"

	"loop.example/g01130/impl"
)

var noOrders = [][]int64{
	nil, {}, {1}, {-1}, {0, 0}, {1, 1}, {1, 2}, {0, 2}, {0, -1}, {0, 1, 1}, {2, 1, 2}, {1, 2, 3}, {0, 1, 3},
	{math.MinInt64}, {0, math.MaxInt64}, turned(37), make([]int64, 36), make([]int64, 1000),
}

func TestPromise2ListsThatAreNoOrders(t *testing.T) {
	for _, list := range noOrders {
		expect(t, say(impl.IsOrder(list)), `false`)
		expectAll(t, `[] false`,
			say(impl.InverseOrder(list)), say(impl.CyclesOf(list)), say(impl.PowerOrder(list, 0)), say(impl.PowerOrder(list, 3)),
			say(impl.ComposeOrders(list, list)), say(impl.ComposeOrders([]int64{0}, list)), say(impl.ComposeOrders(list, []int64{0})),
			say(impl.ComposeOrders(list, []int64{1, 2, 0})), say(impl.ComposeOrders([]int64{1, 2, 0}, list)))
	}
	expectAll(t, `[] false`,
		say(impl.ComposeOrders([]int64{1, 0}, []int64{0})), say(impl.ComposeOrders([]int64{0}, []int64{1, 0})),
		say(impl.ComposeOrders(turned(36), turned(35))), say(impl.ComposeOrders(turned(35), turned(36))))
}

func TestPromise2OrdersOfOneAndOf36Things(t *testing.T) {
	one := []int64{0}
	expect(t, say(impl.IsOrder(one)), `true`)
	expectAll(t, `[0] true`,
		say(impl.InverseOrder(one)), say(impl.ComposeOrders(one, one)), say(impl.PowerOrder(one, 0)), say(impl.PowerOrder(one, impl.MaxValue)))
	expect(t, say(impl.CyclesOf(one)), `[[0]] true`)

	all := turned(36)
	expect(t, say(impl.IsOrder(all)), `true`)
	expect(t, say(impl.CyclesOf(all)), say([][]int64{countedList(36)}, true))
	expectAll(t, say(countedList(36), true),
		say(impl.PowerOrder(all, 0)), say(impl.PowerOrder(all, 36)), say(impl.PowerOrder(all, 999999999999972)))
	back := append([]int64{35}, countedList(35)...)
	expectAll(t, say(back, true), say(impl.InverseOrder(all)), say(impl.PowerOrder(all, 35)))
	expectAll(t, say(countedList(36), true), say(impl.ComposeOrders(all, back)), say(impl.ComposeOrders(back, all)))
}

func TestPromise2PowersAtTheLimits(t *testing.T) {
	f := []int64{1, 2, 0, 4, 3}
	expect(t, say(impl.PowerOrder(f, 0)), `[0 1 2 3 4] true`)
	expect(t, say(impl.PowerOrder(f, 1)), `[1 2 0 4 3] true`)
	expect(t, say(impl.PowerOrder(f, impl.MaxValue)), `[1 2 0 3 4] true`)
	expect(t, say(impl.PowerOrder(f, impl.MaxValue-1)), `[0 1 2 4 3] true`)
	for _, n := range []int64{-1, math.MinInt64, impl.MaxValue + 1, math.MaxInt64} {
		expect(t, say(impl.PowerOrder(f, n)), `[] false`)
	}
}

// placings returns all orders of n things.
func placings(n int) [][]int64 {
	if n == 0 {
		return [][]int64{{}}
	}
	var all [][]int64
	for _, shorter := range placings(n - 1) {
		for i := range n {
			all = append(all, slices.Insert(slices.Clone(shorter), i, int64(n-1)))
		}
	}
	return all
}

// someOrders returns all orders of few things, and some of more, up to 36.
func someOrders() [][]int64 {
	var all [][]int64
	for n := 1; n <= 5; n++ {
		all = append(all, placings(n)...)
	}
	for n := 6; n <= 36; n++ {
		mixed := countedList(n)
		for i := range n {
			k := (i*i*5 + i*3 + 1) % n
			mixed[i], mixed[k] = mixed[k], mixed[i]
		}
		all = append(all, countedList(n), turned(n), mixed)
	}
	return all
}

func TestPromise2OrdersCompose(t *testing.T) {
	for _, f := range placings(4) {
		for _, g := range placings(4) {
			want := make([]int64, 4)
			for i := range want {
				want[i] = f[g[i]]
			}
			expect(t, say(impl.ComposeOrders(f, g)), say(want, true))
		}
	}
	for _, f := range someOrders() {
		expect(t, say(impl.IsOrder(f)), `true`)
		inverse, ok := impl.InverseOrder(f)
		expect(t, say(ok), `true`)
		same := say(countedList(len(f)), true)
		expectAll(t, same, say(impl.ComposeOrders(f, inverse)), say(impl.ComposeOrders(inverse, f)))
		expect(t, say(impl.InverseOrder(inverse)), say(f, true))
	}
}

func TestPromise2PowersAreRepeatedOrders(t *testing.T) {
	for _, f := range someOrders() {
		want := countedList(len(f))
		for n := range int64(40) {
			expect(t, say(impl.PowerOrder(f, n)), say(want, true))
			want, _ = impl.ComposeOrders(f, want)
		}
		great, _ := impl.PowerOrder(f, 123456789012345)
		greater, _ := impl.PowerOrder(f, 876543210987655)
		expect(t, say(impl.PowerOrder(f, impl.MaxValue)), say(impl.ComposeOrders(great, greater)))
		half, _ := impl.PowerOrder(f, impl.MaxValue/2)
		expect(t, say(impl.PowerOrder(f, impl.MaxValue)), say(impl.ComposeOrders(half, half)))
	}
}

// goesOn reports whether a cycle goes on by f and comes back, and begins with its least number.
func goesOn(f, cycle []int64) bool {
	for i, x := range cycle {
		if x < cycle[0] || f[x] != cycle[(i+1)%len(cycle)] {
			return false
		}
	}
	return true
}

func TestPromise2CyclesDivideAnOrder(t *testing.T) {
	expect(t, say(impl.CyclesOf([]int64{0, 1, 2})), `[[0] [1] [2]] true`)
	expect(t, say(impl.CyclesOf([]int64{3, 2, 1, 0})), `[[0 3] [1 2]] true`)
	expect(t, say(impl.CyclesOf([]int64{4, 3, 2, 0, 1})), `[[0 4 1 3] [2]] true`)
	for _, f := range someOrders() {
		cycles, ok := impl.CyclesOf(f)
		var firsts, members []int64
		for _, cycle := range cycles {
			firsts = append(firsts, cycle[0])
			members = append(members, cycle...)
			if !goesOn(f, cycle) {
				t.Errorf("%v has no cycle %v", f, cycle)
			}
		}
		if !ok || !slices.IsSorted(firsts) {
			t.Errorf("cycles of %v: %v %v", f, cycles, ok)
		}
		slices.Sort(members)
		expect(t, say(members), say(countedList(len(f))))
	}
}
