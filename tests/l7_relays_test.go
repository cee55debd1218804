package tests

import (
	"math"
	"reflect"
	"slices"
	"testing"

	"loop.example/g01148/impl"
)

// task is a parcel that carriers are to bring from a place to another one.
type task struct {
	road impl.Road
	list []impl.Carrier
	a, b int
}

func stepsOfLeg(c impl.Carrier, from int, to int) int {
	return distance(c.Start, from) + distance(from, to)
}

// legEndByTrying returns the greatest place to which a carrier has enough steps, and whether there is one.
func legEndByTrying(r impl.Road, c impl.Carrier, x int) (int, bool) {
	for y := r.Size - 1; y >= x; y-- {
		if stepsOfLeg(c, x, y) <= c.Range {
			return y, true
		}
	}
	return 0, false
}

// reachByWords returns where the parcel is behind the carriers of an order.
func reachByWords(r impl.Road, list []impl.Carrier, order []int, a int) int {
	for _, i := range order {
		if end, ok := legEndByTrying(r, list[i], a); ok {
			a = end
		}
	}
	return a
}

// carrierOrders returns all orders of some of k carriers, by their lengths, and then the least one first.
func carrierOrders(k int) [][]int {
	orders := [][]int{}
	for n := range k + 1 {
		part := [][]int{}
		for _, order := range ordersOf(k) {
			part = append(part, order[:n])
		}
		orders = append(orders, slices.CompactFunc(part, slices.Equal)...)
	}
	return orders
}

// greatestByWords returns the greatest reach of all orders.
func greatestByWords(r impl.Road, list []impl.Carrier, a int) int {
	greatest := a
	for _, order := range carrierOrders(len(list)) {
		greatest = max(greatest, reachByWords(r, list, order, a))
	}
	return greatest
}

// everyRelay yields all relays of a task.
func everyRelay(k task) func(func([][3]int) bool) {
	return func(yield func([][3]int) bool) {
		addLegs(k, nil, yield)
	}
}

func addLegs(k task, legs [][3]int, yield func([][3]int) bool) bool {
	at := k.a
	if len(legs) > 0 {
		at = legs[len(legs)-1][2]
	}
	if at == k.b {
		return yield(legs)
	}
	for i, c := range k.list {
		if slices.ContainsFunc(legs, func(leg [3]int) bool { return leg[0] == i }) {
			continue
		}
		for to := at + 1; to <= k.b && stepsOfLeg(c, at, to) <= c.Range; to++ {
			if !addLegs(k, append(slices.Clone(legs), [3]int{i, at, to}), yield) {
				return false
			}
		}
	}
	return true
}

// isRelayByWords goes through what a relay must be.
func isRelayByWords(k task, legs [][3]int) bool {
	if k.a == k.b || len(legs) == 0 {
		return k.a == k.b && len(legs) == 0
	}
	if legs[0][1] != k.a || legs[len(legs)-1][2] != k.b {
		return false
	}
	for n, leg := range legs {
		if leg[0] < 0 || leg[0] >= len(k.list) || leg[1] < 0 || leg[2] >= k.road.Size || leg[2] <= leg[1] {
			return false
		}
		if n > 0 && leg[1] != legs[n-1][2] || stepsOfLeg(k.list[leg[0]], leg[1], leg[2]) > k.list[leg[0]].Range {
			return false
		}
		for _, other := range legs[:n] {
			if other[0] == leg[0] {
				return false
			}
		}
	}
	return true
}

// towards returns the place behind a step from p, which is p itself if that is where to go.
func towards(p int, goal int) int {
	switch {
	case p < goal:
		return p + 1
	case p > goal:
		return p - 1
	}
	return p
}

// relayByWalking goes with the carriers of a relay step by step, and returns what they ask for, and when the parcel is there.
func relayByWalking(list []impl.Carrier, legs [][3]int, a int) (int, int) {
	places := []int{}
	for _, leg := range legs {
		places = append(places, list[leg[0]].Start)
	}
	price, time, parcel := 0, 0, a
	for now := 0; now < len(legs); time++ {
		for n, leg := range legs {
			before := places[n]
			switch {
			case n > now || n == now && before != parcel:
				places[n] = towards(before, leg[1])
			case n == now:
				places[n] = before + 1
				parcel = places[n]
			}
			price += distance(before, places[n]) * list[leg[0]].Fare
		}
		if parcel == legs[now][2] {
			now++
		}
	}
	return price, time
}

// least is what is best for a task, and whether there is a relay.
type least struct {
	price, arrival, legs int
	ok                   bool
}

// with takes another relay into account.
func (l least) with(price int, arrival int, legs int) least {
	if !l.ok {
		return least{price, arrival, legs, true}
	}
	return least{min(l.price, price), min(l.arrival, arrival), min(l.legs, legs), true}
}

// leastOfRelays walks all relays.
func leastOfRelays(k task) least {
	best := least{}
	for legs := range everyRelay(k) {
		price, arrival := relayByWalking(k.list, legs, k.a)
		best = best.with(price, arrival, len(legs))
	}
	return best
}

// leastOfOrders takes all orders, and for each one the best places to hand the parcel over.
func leastOfOrders(k task) least {
	best := least{}
	begin := make([]least, k.road.Size)
	begin[k.a].ok = true
	var goOn func(order []int, at []least)
	goOn = func(order []int, at []least) {
		if l := at[k.b]; l.ok {
			best = best.with(l.price, l.arrival, l.legs)
		}
		for i, c := range k.list {
			if slices.Contains(order, i) {
				continue
			}
			behind := make([]least, k.road.Size)
			for from, l := range at {
				for to := from + 1; l.ok && to < k.road.Size && stepsOfLeg(c, from, to) <= c.Range; to++ {
					behind[to] = behind[to].with(l.price+stepsOfLeg(c, from, to)*c.Fare, max(l.arrival, distance(c.Start, from))+to-from, l.legs+1)
				}
			}
			goOn(append(slices.Clone(order), i), behind)
		}
	}
	goOn(nil, begin)
	return best
}

// smallCrews yields all lists of n carriers on a line with Ranges up to most, whose Fares are told by a rule.
func smallCrews(r impl.Road, n int, most int, rule int) func(func([]impl.Carrier) bool) {
	return func(yield func([]impl.Carrier) bool) {
		for kinds := range listsBelow(r.Size*(most+1), n) {
			list := []impl.Carrier{}
			for i, kind := range kinds {
				list = append(list, impl.Carrier{Start: kind % r.Size, Range: kind / r.Size, Fare: (rule + kind*(i+2)) % 4})
			}
			if !yield(list) {
				return
			}
		}
	}
}

// someCrews returns lists of carriers at places of all parts of a line, also at the same ones, by fixed rules.
func someCrews(r impl.Road, rules int) [][]impl.Carrier {
	crews := [][]impl.Carrier{}
	for rule := range rules {
		list := []impl.Carrier{}
		for i := range rule % 7 {
			list = append(list, impl.Carrier{Start: (rule*5 + i*i*3 + i*(rule/7)) % r.Size, Range: (rule*3+i*(rule+2))%(r.Size/2+3) + i/3, Fare: (rule*rule + i*7) % 21})
		}
		crews = append(crews, list)
	}
	return crews
}

// wrongCarriers returns what is no carrier on a line.
func wrongCarriers(r impl.Road) []impl.Carrier {
	all := []impl.Carrier{}
	for _, p := range wrongPlaces(r) {
		if p < 0 || p >= r.Size {
			all = append(all, impl.Carrier{Start: p}, impl.Carrier{Start: p, Range: 48, Fare: 1})
		}
	}
	for _, n := range []int{-1, 49, 50, -48, math.MaxInt, math.MinInt} {
		all = append(all, impl.Carrier{Range: n}, impl.Carrier{Start: 1, Range: n, Fare: 20})
	}
	for _, n := range []int{-1, 21, 22, -20, math.MaxInt, math.MinInt} {
		all = append(all, impl.Carrier{Fare: n}, impl.Carrier{Start: 1, Range: 48, Fare: n})
	}
	return all
}

// wrongCrews returns what is no list of carriers on a line.
func wrongCrews(r impl.Road) [][]impl.Carrier {
	good := impl.Carrier{Start: 1, Range: 48, Fare: 1}
	crews := [][]impl.Carrier{slices.Repeat([]impl.Carrier{good}, 7), slices.Repeat([]impl.Carrier{{}}, 8), make([]impl.Carrier, 100000)}
	for _, c := range wrongCarriers(r) {
		crews = append(crews, []impl.Carrier{c}, []impl.Carrier{c, good}, []impl.Carrier{good, c}, []impl.Carrier{good, good, good, good, good, c})
	}
	return crews
}

func wantAreCarriers(t *testing.T, r impl.Road, list []impl.Carrier, want bool, fine bool) {
	t.Helper()
	if are, ok := impl.AreCarriers(r, list); are != want || ok != fine {
		t.Errorf("AreCarriers(%v, %.50v) = %v, %v; want %v, %v", r, list, are, ok, want, fine)
	}
}

func wantIsRelay(t *testing.T, k task, legs [][3]int, want bool, fine bool) {
	t.Helper()
	if is, ok := impl.IsRelay(k.road, k.list, k.a, k.b, legs); is != want || ok != fine {
		t.Errorf("IsRelay(%v, %.50v) = %v, %v; want %v, %v", k, legs, is, ok, want, fine)
	}
}

// checkRelay takes a list of legs that is a relay.
func checkRelay(t *testing.T, k task, legs [][3]int, price int, arrival int) {
	t.Helper()
	wantIsRelay(t, k, legs, true, true)
	got, ok := impl.RelayPrice(k.road, k.list, k.a, k.b, legs)
	wantNumber(t, "RelayPrice", got, ok, price)
	got, ok = impl.RelayArrival(k.road, k.list, k.a, k.b, legs)
	wantNumber(t, "RelayArrival", got, ok, arrival)
}

// checkNoRelay takes a list of legs that is no relay; fine is whether all else is valid.
func checkNoRelay(t *testing.T, k task, legs [][3]int, fine bool) {
	t.Helper()
	wantIsRelay(t, k, legs, false, fine)
	got, ok := impl.RelayPrice(k.road, k.list, k.a, k.b, legs)
	wantNoNumber(t, "RelayPrice", got, ok)
	got, ok = impl.RelayArrival(k.road, k.list, k.a, k.b, legs)
	wantNoNumber(t, "RelayArrival", got, ok)
}

// checkLeastRelays holds what is told to be best against what is.
func checkLeastRelays(t *testing.T, k task, want least) {
	t.Helper()
	for name, call := range map[string]func(impl.Road, []impl.Carrier, int, int) (int, bool){"LeastPrice": impl.LeastPrice, "FirstArrival": impl.FirstArrival, "FewestCarriers": impl.FewestCarriers} {
		number := map[string]int{"LeastPrice": want.price, "FirstArrival": want.arrival, "FewestCarriers": want.legs}[name]
		if got, ok := call(k.road, k.list, k.a, k.b); ok != want.ok || got != number {
			t.Errorf("%s(%v) = %d, %v; want %d, %v", name, k, got, ok, number, want.ok)
		}
	}
	if want.ok && want.arrival < k.b-k.a {
		t.Errorf("FirstArrival(%v) = %d is less than the gap", k, want.arrival)
	}
}

// checkReaches holds the reaches and the first orders against all orders, and returns the greatest reach.
func checkReaches(t *testing.T, r impl.Road, list []impl.Carrier, a int) int {
	t.Helper()
	greatest := greatestByWords(r, list, a)
	reach, ok := impl.GreatestReach(r, list, a)
	wantNumber(t, "GreatestReach", reach, ok, greatest)
	firsts := map[int][]int{}
	for _, order := range carrierOrders(len(list)) {
		want := reachByWords(r, list, order, a)
		reach, ok := impl.OrderReach(r, list, order, a)
		wantNumber(t, "OrderReach", reach, ok, want)
		for b := a; b <= want; b++ {
			if firsts[b] == nil {
				firsts[b] = order
			}
		}
	}
	for b := range r.Size {
		order, ok := impl.ReachOrder(r, list, a, b)
		fewest, few := impl.FewestCarriers(r, list, a, b)
		if b < a || b > greatest {
			wantNoList(t, "ReachOrder", order, ok)
			wantNoNumber(t, "FewestCarriers", fewest, few)
			continue
		}
		wantList(t, "ReachOrder", order, ok, firsts[b])
		wantNumber(t, "FewestCarriers", fewest, few, len(order))
	}
	return greatest
}

// extraByWords returns the least number with which some order has enough reach, and whether there is one.
func extraByWords(k task) (int, bool) {
	for extra := range 49 {
		longer := slices.Clone(k.list)
		for i := range longer {
			longer[i].Range += extra
		}
		if greatestByWords(k.road, longer, k.a) >= k.b {
			return extra, true
		}
	}
	return 0, false
}

func wantExtra(t *testing.T, k task, want int, can bool) {
	t.Helper()
	if extra, ok := impl.ExtraRange(k.road, k.list, k.a, k.b); ok != can || extra != want {
		t.Errorf("ExtraRange(%v) = %d, %v; want %d, %v", k, extra, ok, want, can)
	}
}

// checkNoTask takes a task that is not valid.
func checkNoTask(t *testing.T, k task) {
	t.Helper()
	order, ok := impl.ReachOrder(k.road, k.list, k.a, k.b)
	wantNoList(t, "ReachOrder", order, ok)
	checkLeastRelays(t, k, least{})
	wantExtra(t, k, 0, false)
	for _, legs := range [][][3]int{nil, {}, {{0, k.a, k.b}}, {{0, 0, 1}}, {{0, 0, 1}, {1, 1, 2}}} {
		checkNoRelay(t, k, legs, false)
	}
}

// checkNoReach takes carriers or a place that are not valid.
func checkNoReach(t *testing.T, r impl.Road, list []impl.Carrier, a int) {
	t.Helper()
	reach, ok := impl.GreatestReach(r, list, a)
	wantNoNumber(t, "GreatestReach", reach, ok)
	for _, order := range [][]int{nil, {}, {0}, {0, 1}} {
		reach, ok := impl.OrderReach(r, list, order, a)
		wantNoNumber(t, "OrderReach", reach, ok)
	}
	for _, b := range []int{0, 1, r.Size - 1, a} {
		checkNoTask(t, task{r, list, a, b})
	}
}

func TestLimitsOfRelays(t *testing.T) {
	if impl.MaxCarriers != 6 || impl.MaxRange != 48 || impl.MaxFare != 20 || impl.MaxExtra != 48 {
		t.Error("limits", impl.MaxCarriers, impl.MaxRange, impl.MaxFare, impl.MaxExtra)
	}
}

func TestAreCarriers(t *testing.T) {
	for size := 2; size <= 24; size++ {
		r := line(size)
		for _, list := range someCrews(r, 30) {
			wantAreCarriers(t, r, list, true, true)
			wantAreCarriers(t, ring(size), list, false, false)
		}
		for n := range 10 {
			wantAreCarriers(t, r, slices.Repeat([]impl.Carrier{{Start: size - 1, Range: 48, Fare: 20}}, n), n <= 6, true)
		}
		for n := -3; n <= 60; n++ {
			for _, c := range []impl.Carrier{{}, {Start: 1, Range: 1, Fare: 1}, {Start: size - 1, Range: 48, Fare: 20}} {
				wantAreCarriers(t, r, []impl.Carrier{{Start: n, Range: c.Range, Fare: c.Fare}}, n >= 0 && n < size, true)
				wantAreCarriers(t, r, []impl.Carrier{{Start: c.Start, Range: n, Fare: c.Fare}}, n >= 0 && n <= 48, true)
				wantAreCarriers(t, r, []impl.Carrier{c, {Start: c.Start, Range: c.Range, Fare: n}}, n >= 0 && n <= 20, true)
			}
		}
		for _, list := range wrongCrews(r) {
			wantAreCarriers(t, r, list, false, true)
		}
	}
	for _, r := range slices.Concat(wrongRoads, []impl.Road{ring(3), ring(7), ring(24)}) {
		for _, list := range [][]impl.Carrier{nil, {}, {{}}, {{Start: 1, Range: 3, Fare: 2}}, {{Start: -1}}, make([]impl.Carrier, 7)} {
			wantAreCarriers(t, r, list, false, false)
		}
	}
}

func TestLegEndKnown(t *testing.T) {
	known := []struct {
		name string
		c    impl.Carrier
		x    int
		want int
	}{
		{"where it stands", impl.Carrier{Start: 3, Range: 4}, 3, 7}, {"it stands in front of the parcel", impl.Carrier{Start: 5, Range: 4, Fare: 2}, 3, 5}, {"it stands behind the parcel", impl.Carrier{Start: 1, Range: 4}, 3, 5},
		{"no steps, and the parcel is there", impl.Carrier{Start: 3}, 3, 3}, {"just to the parcel, backwards", impl.Carrier{Start: 5, Range: 2}, 3, 3}, {"just to the parcel, forwards", impl.Carrier{Start: 1, Range: 2}, 3, 3}, {"one more step", impl.Carrier{Start: 5, Range: 3}, 3, 4},
		{"just to the end", impl.Carrier{Start: 2, Range: 7}, 3, 9}, {"to the end with steps to spare", impl.Carrier{Start: 4, Range: 48, Fare: 20}, 3, 9}, {"one step to spare", impl.Carrier{Start: 3, Range: 7}, 3, 9}, {"the parcel is at the end", impl.Carrier{Start: 9, Range: 5}, 9, 9}, {"from one end to the other one and back", impl.Carrier{Start: 9, Range: 18}, 0, 9}, {"nearly", impl.Carrier{Start: 9, Range: 17}, 0, 8},
	}
	for _, k := range known {
		end, ok := impl.LegEnd(line(10), k.c, k.x)
		wantNumber(t, k.name, end, ok, k.want)
	}
	for _, c := range []impl.Carrier{{Start: 5, Range: 1}, {Start: 1, Range: 1}, {Start: 9, Range: 5}, {}, {Start: 9}, {Start: 4}} {
		end, ok := impl.LegEnd(line(10), c, 3)
		wantNoNumber(t, "LegEnd of a carrier that cannot come", end, ok)
	}
}

// TestLegEnd takes all carriers and places of lines.
func TestLegEnd(t *testing.T) {
	for size := 2; size <= 24; size++ {
		r := line(size)
		for start := range size {
			for steps := 0; steps <= 48; steps++ {
				c := impl.Carrier{Start: start, Range: steps, Fare: steps % 21}
				for x := range size {
					want, can := legEndByTrying(r, c, x)
					if end, ok := impl.LegEnd(r, c, x); ok != can || end != want {
						t.Errorf("LegEnd(%v, %v, %d) = %d, %v; want %d, %v", r, c, x, end, ok, want, can)
					}
				}
			}
		}
	}
}

func TestLegEndThatIsNot(t *testing.T) {
	check := func(r impl.Road, c impl.Carrier, x int) {
		end, ok := impl.LegEnd(r, c, x)
		wantNoNumber(t, "LegEnd", end, ok)
	}
	for _, r := range []impl.Road{line(2), line(7), line(24)} {
		for _, c := range wrongCarriers(r) {
			check(r, c, 0)
			check(r, c, 1)
		}
		for _, x := range wrongPlaces(r) {
			if x < 0 || x >= r.Size {
				check(r, impl.Carrier{}, x)
				check(r, impl.Carrier{Start: r.Size - 1, Range: 48, Fare: 20}, x)
				check(r, impl.Carrier{Start: x, Range: 48}, x)
			}
		}
	}
	for _, r := range slices.Concat(wrongRoads, []impl.Road{ring(3), ring(7), ring(24)}) {
		check(r, impl.Carrier{}, 0)
		check(r, impl.Carrier{Start: 1, Range: 48}, 1)
	}
}

func TestOrderReachKnown(t *testing.T) {
	r := line(10)
	list := []impl.Carrier{{Range: 4}, {Start: 5, Range: 4}, {Start: 5, Range: 2}, {Start: 9, Range: 1}, {Start: 5, Range: 2}, {Start: 8, Range: 48}}
	known := []struct {
		order []int
		a     int
		want  int
	}{
		{nil, 0, 0}, {[]int{}, 9, 9}, {[]int{0}, 0, 4}, {[]int{1}, 0, 0}, {[]int{0, 1}, 0, 7}, {[]int{1, 0}, 0, 4}, {[]int{1, 0}, 1, 4}, {[]int{2}, 3, 3}, {[]int{2}, 4, 5}, {[]int{2, 4}, 4, 7}, {[]int{4, 2}, 4, 7}, {[]int{0, 1, 2, 4}, 0, 7},
		{[]int{0, 2, 4, 1, 3}, 0, 9}, {[]int{3, 0, 2, 4, 1, 5}, 0, 9}, {[]int{5}, 0, 9}, {[]int{0, 1, 2, 3, 4}, 0, 7}, {[]int{3}, 8, 8}, {[]int{3}, 9, 9}, {[]int{3}, 7, 7}, {[]int{2, 0}, 5, 7}, {[]int{0}, 5, 5}, {[]int{0}, 4, 4},
	}
	for _, k := range known {
		reach, ok := impl.OrderReach(r, list, k.order, k.a)
		wantNumber(t, "OrderReach", reach, ok, k.want)
	}
}

func TestOrdersThatAreNot(t *testing.T) {
	r := line(10)
	for n := range 7 {
		list := slices.Repeat([]impl.Carrier{{Start: 2, Range: 9}}, n)
		for i := -3; i <= 9; i++ {
			reach, ok := impl.OrderReach(r, list, []int{i}, 1)
			if ok != (i >= 0 && i < n) || ok && reach != 9 || !ok && reach != 0 {
				t.Errorf("OrderReach of carrier %d of %d = %d, %v", i, n, reach, ok)
			}
		}
		for _, order := range [][]int{{0, 0}, {1, 2, 1}, {0, 1, 2, 3, 4, 5, 0}, {0, 1, 2, 3, 4, 5, 6}, {5, 4, 3, 3}, {0, -1}, {0, 6}, {math.MaxInt}, {math.MinInt}, make([]int, 100000)} {
			reach, ok := impl.OrderReach(r, list, order, 1)
			wantNoNumber(t, "OrderReach", reach, ok)
		}
	}
}

// TestReaches takes all orders of carriers, few ones on all short lines and more on all lines.
func TestReaches(t *testing.T) {
	for size := 2; size <= 4; size++ {
		r := line(size)
		for n := range 3 {
			for list := range smallCrews(r, n, size+1, 0) {
				for a := range size {
					checkReaches(t, r, list, a)
				}
			}
		}
	}
	for size := 2; size <= 24; size++ {
		for rule, list := range someCrews(line(size), 28) {
			checkReaches(t, line(size), list, rule%size)
			checkReaches(t, line(size), list[:len(list)/2], 0)
		}
	}
}

func TestReachOrderKnown(t *testing.T) {
	same := impl.Carrier{Start: 2, Range: 4}
	known := []struct {
		name string
		list []impl.Carrier
		a, b int
		want []int
	}{
		{"there already", []impl.Carrier{same, same}, 3, 3, []int{}}, {"there already, without carriers", nil, 9, 9, []int{}}, {"there already, with a carrier that cannot come", []impl.Carrier{{Start: 9}}, 1, 1, []int{}},
		{"one", []impl.Carrier{{Range: 4}, {Start: 5, Range: 4}}, 0, 3, []int{0}}, {"both", []impl.Carrier{{Range: 4}, {Start: 5, Range: 4}}, 0, 7, []int{0, 1}}, {"both, the other way", []impl.Carrier{{Start: 5, Range: 4}, {Range: 4}}, 0, 7, []int{1, 0}},
		{"the first of the same", []impl.Carrier{same, same, same}, 2, 6, []int{0}}, {"the first of those that do", []impl.Carrier{{}, same, same}, 2, 6, []int{1}}, {"the first two", slices.Repeat([]impl.Carrier{{Start: 5, Range: 2}}, 6), 4, 6, []int{0, 1}},
		{"a better one comes later", []impl.Carrier{same, {Start: 2, Range: 48}}, 2, 6, []int{0}}, {"a shorter order of a greater number", []impl.Carrier{{Range: 4}, {Start: 5, Range: 4}, {Start: 9, Range: 18}}, 0, 7, []int{2}}, {"none but the last", []impl.Carrier{{}, {}, {}, {}, {}, {Range: 9}}, 0, 9, []int{5}},
		{"of two orders the first", []impl.Carrier{{Start: 4, Range: 4}, {Range: 4}, {Start: 4, Range: 4}}, 0, 8, []int{1, 0}}, {"all of them", []impl.Carrier{{Start: 5, Range: 1}, {Start: 4, Range: 1}, {Start: 3, Range: 1}, {Start: 2, Range: 1}, {Start: 1, Range: 1}, {Range: 1}}, 0, 6, []int{5, 4, 3, 2, 1, 0}},
	}
	for _, k := range known {
		order, ok := impl.ReachOrder(line(10), k.list, k.a, k.b)
		wantList(t, k.name, order, ok, k.want)
		fewest, ok := impl.FewestCarriers(line(10), k.list, k.a, k.b)
		wantNumber(t, k.name, fewest, ok, len(k.want))
	}
	for _, list := range [][]impl.Carrier{nil, {}, {{}}, {{Range: 4}, {Start: 5, Range: 4}}, {{Start: 9, Range: 16}}} {
		order, ok := impl.ReachOrder(line(10), list, 0, 8)
		wantNoList(t, "ReachOrder", order, ok)
		checkLeastRelays(t, task{line(10), list, 0, 8}, least{})
	}
}

func TestRelaysKnown(t *testing.T) {
	crew := []impl.Carrier{{Range: 4, Fare: 1}, {Start: 5, Range: 4, Fare: 2}, {Start: 9, Range: 48, Fare: 20}, {Start: 2, Range: 3}, {Start: 7, Range: 2, Fare: 3}}
	known := []struct {
		name           string
		a, b           int
		legs           [][3]int
		price, arrival int
	}{
		{"no legs", 4, 4, nil, 0, 0}, {"no legs at the end", 9, 9, [][3]int{}, 0, 0}, {"one leg", 0, 4, [][3]int{{0, 0, 4}}, 4, 4}, {"one leg, of one step", 2, 3, [][3]int{{3, 2, 3}}, 0, 1}, {"the parcel waits", 0, 9, [][3]int{{2, 0, 9}}, 360, 18},
		{"the carrier waits", 0, 7, [][3]int{{0, 0, 4}, {1, 4, 7}}, 4 + 8, 7}, {"it comes just in time", 3, 6, [][3]int{{3, 3, 5}, {1, 5, 6}}, 2, 4}, {"the parcel waits at the second carrier", 4, 6, [][3]int{{1, 4, 5}, {2, 5, 6}}, 4 + 100, 5}, {"both wait", 0, 8, [][3]int{{0, 0, 2}, {3, 2, 5}, {2, 5, 6}, {4, 6, 7}, {1, 7, 8}}, 2 + 0 + 100 + 6 + 6, 8},
		{"it goes backwards first", 6, 7, [][3]int{{4, 6, 7}}, 6, 2}, {"it goes forwards first", 7, 9, [][3]int{{1, 7, 9}}, 8, 4}, {"in two for the price of none", 2, 5, [][3]int{{3, 2, 5}}, 0, 3},
	}
	for _, k := range known {
		t.Run(k.name, func(t *testing.T) {
			checkRelay(t, task{line(10), crew, k.a, k.b}, k.legs, k.price, k.arrival)
		})
	}
}

func TestRelaysThatAreNot(t *testing.T) {
	crew := []impl.Carrier{{Range: 4, Fare: 1}, {Start: 5, Range: 4, Fare: 2}, {Start: 9, Range: 48, Fare: 20}, {Start: 3, Range: 1}}
	known := []struct {
		name string
		a, b int
		legs [][3]int
	}{
		{"no legs, but another place", 3, 4, nil}, {"a leg, but the same place", 3, 3, [][3]int{{3, 3, 4}}}, {"a leg of no steps", 3, 3, [][3]int{{3, 3, 3}}}, {"a leg of no steps first", 0, 4, [][3]int{{3, 0, 0}, {0, 0, 4}}}, {"a leg of no steps last", 0, 4, [][3]int{{0, 0, 4}, {1, 4, 4}}}, {"a leg of no steps between", 0, 7, [][3]int{{0, 0, 4}, {2, 4, 4}, {1, 4, 7}}},
		{"it goes backwards", 4, 5, [][3]int{{1, 4, 6}, {2, 6, 5}}}, {"there and back", 4, 4, [][3]int{{1, 4, 5}, {2, 5, 4}}}, {"it begins elsewhere", 0, 4, [][3]int{{0, 1, 4}}}, {"it begins before", 1, 4, [][3]int{{0, 0, 4}}}, {"it ends elsewhere", 0, 4, [][3]int{{0, 0, 3}}}, {"it ends behind", 0, 3, [][3]int{{0, 0, 4}}},
		{"a gap between legs", 0, 7, [][3]int{{0, 0, 3}, {1, 4, 7}}}, {"legs that lap over", 0, 6, [][3]int{{0, 0, 4}, {1, 3, 6}}}, {"the same carrier twice", 0, 4, [][3]int{{0, 0, 2}, {0, 2, 4}}}, {"the same carrier twice, another one between", 0, 5, [][3]int{{2, 0, 2}, {1, 2, 3}, {2, 3, 5}}},
		{"too far", 0, 5, [][3]int{{0, 0, 5}}}, {"too far behind another leg", 0, 8, [][3]int{{0, 0, 4}, {1, 4, 8}}}, {"too far away", 0, 1, [][3]int{{1, 0, 1}}}, {"no step is left", 4, 5, [][3]int{{3, 4, 5}}}, {"no such carrier", 0, 4, [][3]int{{4, 0, 4}}}, {"a carrier less than 0", 0, 4, [][3]int{{-1, 0, 4}}},
		{"off the road", 0, 9, [][3]int{{2, 0, 10}}}, {"off the road and back", 0, 9, [][3]int{{2, 0, 10}, {1, 10, 9}}}, {"from before the road", 0, 4, [][3]int{{0, -1, 4}}}, {"a great carrier", 0, 4, [][3]int{{math.MaxInt, 0, 4}}}, {"a small carrier", 0, 4, [][3]int{{math.MinInt, 0, 4}}}, {"a great place", 0, 4, [][3]int{{2, 0, math.MaxInt}}}, {"great places", 0, 4, [][3]int{{2, 0, math.MaxInt}, {1, math.MaxInt, 4}}}, {"a small place", 0, 4, [][3]int{{0, math.MinInt, 4}}},
		{"all legs are the same", 0, 4, slices.Repeat([][3]int{{0, 0, 4}}, 4)}, {"many legs", 0, 4, slices.Repeat([][3]int{{0, 0, 4}}, 100000)}, {"very many legs", 0, 0, make([][3]int, 100000)}, {"another leg behind the last one", 0, 4, [][3]int{{0, 0, 4}, {1, 4, 5}}},
	}
	for _, k := range known {
		t.Run(k.name, func(t *testing.T) {
			checkNoRelay(t, task{line(10), crew, k.a, k.b}, k.legs, true)
		})
	}
}

// TestAllLegs takes all lists of at most two legs on short lines, with carriers and places that there are or are not.
func TestAllLegs(t *testing.T) {
	crews := [][]impl.Carrier{{}, {{Range: 2, Fare: 1}}, {{Range: 1, Fare: 1}, {Start: 2, Range: 2, Fare: 2}}, {{Start: 1, Range: 1}, {Start: 1, Range: 1, Fare: 3}}, {{Start: 1, Range: 9, Fare: 4}, {Start: 2, Range: 9, Fare: 20}}}
	r := line(4)
	all := [][3]int{}
	for numbers := range listsBelow(6, 3) {
		all = append(all, [3]int{numbers[0] - 1, numbers[1] - 1, numbers[2] - 1})
	}
	check := func(k task, legs [][3]int) {
		if !isRelayByWords(k, legs) {
			checkNoRelay(t, k, legs, true)
			return
		}
		price, arrival := relayByWalking(k.list, legs, k.a)
		checkRelay(t, k, legs, price, arrival)
	}
	for _, list := range crews {
		for _, ends := range [][2]int{{0, 0}, {0, 1}, {0, 2}, {0, 3}, {1, 3}, {2, 2}} {
			k := task{r, list, ends[0], ends[1]}
			check(k, nil)
			for _, one := range all {
				check(k, [][3]int{one})
				for _, two := range all {
					check(k, [][3]int{one, two})
				}
			}
		}
	}
}

// TestLeastOfAllRelays walks all relays of few carriers on short lines: no one has a less price or arrival, and there is one just up to the greatest reach.
func TestLeastOfAllRelays(t *testing.T) {
	check := func(r impl.Road, list []impl.Carrier, a int) {
		greatest, _ := impl.GreatestReach(r, list, a)
		for b := a; b < r.Size; b++ {
			k := task{r, list, a, b}
			best := leastOfRelays(k)
			if best.ok != (b <= greatest) {
				t.Errorf("there is a relay for %v: %v; GreatestReach %d", k, best.ok, greatest)
			}
			checkLeastRelays(t, k, best)
			for legs := range everyRelay(k) {
				price, arrival := relayByWalking(list, legs, a)
				checkRelay(t, k, legs, price, arrival)
			}
		}
	}
	for size := 2; size <= 4; size++ {
		for n := range 3 {
			for list := range smallCrews(line(size), n, size+1, size) {
				check(line(size), list, 0)
				check(line(size), list, 1)
			}
		}
	}
	for list := range smallCrews(line(3), 3, 3, 1) {
		check(line(3), list, 0)
	}
	for size := 5; size <= 9; size++ {
		for rule, list := range someCrews(line(size), 84) {
			check(line(size), list[:min(11-size, len(list))], rule%3)
		}
	}
}

// TestLeastOfAllOrders takes up to six carriers on all lines.
func TestLeastOfAllOrders(t *testing.T) {
	for size := 2; size <= 24; size++ {
		r := line(size)
		for rule, list := range someCrews(r, 28) {
			for _, a := range []int{0, rule % size} {
				greatest, _ := impl.GreatestReach(r, list, a)
				for _, b := range []int{a, (a + greatest + 1) / 2, greatest, min(greatest+1, size-1)} {
					checkLeastRelays(t, task{r, list, a, b}, leastOfOrders(task{r, list, a, b}))
				}
			}
		}
	}
}

func TestLeastKnown(t *testing.T) {
	known := []struct {
		name string
		list []impl.Carrier
		a, b int
		want least
	}{
		{"there already", []impl.Carrier{{Range: 4, Fare: 1}}, 3, 3, least{0, 0, 0, true}}, {"there already, without carriers", nil, 0, 0, least{0, 0, 0, true}}, {"no carriers", nil, 0, 1, least{}}, {"without steps", []impl.Carrier{{}, {Start: 1}}, 0, 1, least{}}, {"too far", []impl.Carrier{{Range: 4}, {Start: 5, Range: 4}}, 0, 8, least{}},
		{"both", []impl.Carrier{{Range: 4, Fare: 1}, {Start: 5, Range: 4, Fare: 2}}, 0, 7, least{12, 7, 2, true}}, {"free of charge", []impl.Carrier{{Range: 9}}, 0, 9, least{0, 9, 1, true}}, {"the dearest", []impl.Carrier{{Start: 9, Range: 48, Fare: 20}}, 0, 9, least{360, 18, 1, true}},
		{"cheap or fast", []impl.Carrier{{Range: 9, Fare: 20}, {Start: 9, Range: 18, Fare: 1}}, 0, 9, least{18, 9, 1, true}}, {"few or cheap", []impl.Carrier{{Range: 9, Fare: 9}, {Range: 5, Fare: 1}, {Start: 5, Range: 4, Fare: 1}}, 0, 9, least{9, 9, 1, true}}, {"a part of the way", []impl.Carrier{{Range: 9, Fare: 3}, {Start: 5, Range: 9, Fare: 1}}, 0, 9, least{9 + 8, 9, 1, true}},
		{"handed over before the end of the leg", []impl.Carrier{{Range: 9, Fare: 10}, {Start: 3, Range: 6, Fare: 0}}, 0, 9, least{30, 9, 1, true}}, {"met on the way", []impl.Carrier{{Range: 6, Fare: 2}, {Start: 8, Range: 7, Fare: 3}}, 0, 9, least{6*2 + 5*3, 9, 2, true}}, {"fetched early", []impl.Carrier{{Start: 4, Range: 20, Fare: 5}, {Start: 2, Range: 4, Fare: 1}}, 0, 7, least{4 + 7*5, 9, 1, true}},
	}
	for _, k := range known {
		t.Run(k.name, func(t *testing.T) {
			checkLeastRelays(t, task{line(10), k.list, k.a, k.b}, k.want)
		})
	}
}

// TestCheapIsNotFast has a relay of the least price that does not arrive first.
func TestCheapIsNotFast(t *testing.T) {
	k := task{line(10), []impl.Carrier{{Range: 9, Fare: 20}, {Start: 9, Range: 18, Fare: 1}}, 0, 9}
	checkRelay(t, k, [][3]int{{1, 0, 9}}, 18, 18)
	checkRelay(t, k, [][3]int{{0, 0, 9}}, 180, 9)
	checkRelay(t, k, [][3]int{{0, 0, 5}, {1, 5, 9}}, 108, 9)
	checkLeastRelays(t, k, least{18, 9, 1, true})
}

func TestExtraRangeKnown(t *testing.T) {
	known := []struct {
		name string
		k    task
		want int
	}{
		{"none needed", task{line(10), []impl.Carrier{{Range: 4}, {Start: 5, Range: 4}}, 0, 7}, 0}, {"one", task{line(10), []impl.Carrier{{Range: 4}, {Start: 5, Range: 4}}, 0, 9}, 1}, {"there already", task{line(10), []impl.Carrier{{Start: 9}}, 3, 3}, 0}, {"there already, without carriers", task{line(10), nil, 3, 3}, 0},
		{"a carrier without steps", task{line(10), []impl.Carrier{{}}, 0, 9}, 9}, {"many without steps", task{line(10), make([]impl.Carrier, 6), 0, 9}, 9}, {"one at each place", task{line(7), []impl.Carrier{{}, {Start: 1}, {Start: 2}, {Start: 3}, {Start: 4}, {Start: 5}}, 0, 6}, 1}, {"the most", task{line(24), []impl.Carrier{{Start: 23}}, 0, 23}, 46}, {"the most for six", task{line(24), slices.Repeat([]impl.Carrier{{Start: 23}}, 6), 0, 23}, 24},
		{"beyond the greatest Range", task{line(24), []impl.Carrier{{Start: 20, Range: 48}, {Start: 23}}, 0, 23}, 0}, {"with fares", task{line(5), []impl.Carrier{{Start: 4, Range: 3, Fare: 20}}, 0, 4}, 5},
	}
	for _, k := range known {
		t.Run(k.name, func(t *testing.T) {
			wantExtra(t, k.k, k.want, true)
		})
	}
	for _, list := range [][]impl.Carrier{nil, {}} {
		for _, size := range []int{2, 10, 24} {
			for b := 1; b < size; b++ {
				wantExtra(t, task{line(size), list, 0, b}, 0, false)
			}
		}
	}
}

// TestExtraRange tries all numbers. A line has so few places that none needs MaxExtra.
func TestExtraRange(t *testing.T) {
	most := 0
	for size := 2; size <= 24; size++ {
		for start := range size {
			for a := range size {
				for b := a; b < size; b++ {
					k := task{line(size), []impl.Carrier{{Start: start, Range: (start + a + 1) % 3}}, a, b}
					want := max(0, distance(start, a)+b-a-k.list[0].Range)
					if a == b {
						want = 0
					}
					wantExtra(t, k, want, true)
					most = max(most, want)
				}
			}
		}
		for rule, list := range someCrews(line(size), 21) {
			k := task{line(size), list[:min(4, len(list))], rule % 2, size - 1}
			want, can := extraByWords(k)
			wantExtra(t, k, want, can)
			if greatest, _ := impl.GreatestReach(k.road, k.list, k.a); can && (want == 0) != (greatest >= k.b) {
				t.Errorf("ExtraRange(%v) = %d, but GreatestReach %d", k, want, greatest)
			}
		}
	}
	if most != 46 {
		t.Error("the greatest extra range is", most)
	}
}

func TestCarriersThatAreNot(t *testing.T) {
	good := []impl.Carrier{{Start: 1, Range: 48, Fare: 1}, {Range: 48, Fare: 1}}
	for _, r := range []impl.Road{line(2), line(7), line(24)} {
		for _, list := range wrongCrews(r) {
			checkNoReach(t, r, list, 0)
			checkNoReach(t, r, list, 1)
		}
		for _, p := range wrongPlaces(r) {
			if p >= 0 && p < r.Size {
				continue
			}
			for _, list := range [][]impl.Carrier{nil, good} {
				checkNoReach(t, r, list, p)
				checkNoTask(t, task{r, list, 0, p})
				checkNoTask(t, task{r, list, r.Size - 1, p})
			}
		}
	}
	for _, r := range slices.Concat(wrongRoads, []impl.Road{ring(3), ring(7), ring(24)}) {
		for _, list := range [][]impl.Carrier{nil, {}, {{}}, good, {{Start: -1}}} {
			checkNoReach(t, r, list, 0)
			checkNoReach(t, r, list, 1)
		}
	}
}

// TestTasksBackwards has places of the end that are less than those of the beginning.
func TestTasksBackwards(t *testing.T) {
	for _, r := range []impl.Road{line(2), line(3), line(10), line(24)} {
		for _, list := range [][]impl.Carrier{nil, {{Range: 48}}, {{Start: 1, Range: 48}, {Start: 1, Range: 48, Fare: 20}}} {
			for a := range r.Size {
				for b := range a {
					checkNoTask(t, task{r, list, a, b})
				}
			}
		}
	}
}

// TestRelaysAreKeptApart changes results, and looks whether arguments, later results or other lists have changed with them.
func TestRelaysAreKeptApart(t *testing.T) {
	r := line(10)
	crew := []impl.Carrier{{Start: 9, Range: 9}, {Start: 5, Range: 4, Fare: 2}, {Range: 4, Fare: 1}, {Start: 1, Range: 1}, {Start: 9, Range: 9}}
	list := crew[1:4]
	order := []int{77, 1, 0, 88}
	legs := [][3]int{{77, 77, 77}, {1, 0, 4}, {0, 4, 7}, {88, 88, 88}}
	crewBefore, orderBefore, legsBefore := slices.Clone(crew), slices.Clone(order), slices.Clone(legs)
	checkKeptApart(t, map[string]func() ([][]int, bool){
		"ReachOrder": func() ([][]int, bool) {
			order, ok := impl.ReachOrder(r, list, 0, 7)
			return [][]int{order}, ok
		},
		"ReachOrder of none": func() ([][]int, bool) {
			order, ok := impl.ReachOrder(r, list, 7, 7)
			return [][]int{order}, ok
		},
	})
	impl.AreCarriers(r, list)
	impl.LegEnd(r, list[0], 3)
	reach, ok := impl.OrderReach(r, list, order[1:3], 0)
	wantNumber(t, "OrderReach", reach, ok, 7)
	impl.GreatestReach(r, list, 0)
	checkRelay(t, task{r, list, 0, 7}, legs[1:3], 12, 7)
	checkLeastRelays(t, task{r, list, 0, 7}, least{12, 7, 2, true})
	wantExtra(t, task{r, list, 0, 9}, 1, true)
	if !reflect.DeepEqual(crew, crewBefore) || !slices.Equal(order, orderBefore) || !reflect.DeepEqual(legs, legsBefore) {
		t.Error("arguments have changed:", crew, order, legs)
	}
}
