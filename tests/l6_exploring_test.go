package tests

import (
	"math"
	"reflect"
	"slices"
	"testing"

	"loop.example/g01148/impl"
)

// explorer is where one begins on a road, and whether it returns.
type explorer struct {
	road  impl.Road
	start int
	back  bool
}

// timesBySet has what setTimes has found, since walking takes long.
var timesBySet = map[explorer]map[int]int{}

// setTimes returns for each set of places in which time an explorer can have visited just these.
func setTimes(r impl.Road, a int, back bool) map[int]int {
	one := explorer{r, a, back}
	if times, ok := timesBySet[one]; ok {
		return times
	}
	times := leastTimesAt(r, a, func(p int) bool { return !back || p == a })
	timesBySet[one] = times
	return times
}

// runOf is a run of an explorer.
type runOf struct {
	one   explorer
	first int
	count int
}

var timesByRun = map[runOf]int{}

// runTimeByWalking returns the least time of a walk of an explorer that visits all places of a run.
func runTimeByWalking(r impl.Road, p int, x int, n int, back bool) int {
	if n == 0 {
		return 0
	}
	run := runOf{explorer{r, p, back}, x, n}
	time, ok := timesByRun[run]
	if !ok {
		time = leastFor(setTimes(r, p, back), setOf(runByWords(r, x, n)))
		timesByRun[run] = time
	}
	return time
}

// runByWords returns x and the next greater places, on a ring from the first one on again.
func runByWords(r impl.Road, x int, n int) []int {
	places := []int{}
	for p := x; len(places) < n; p++ {
		if p == r.Size && r.Ring {
			p = 0
		}
		places = append(places, p)
	}
	return places
}

func setOf(places []int) int {
	set := 0
	for _, p := range places {
		set |= 1 << p
	}
	return set
}

// takenByWords returns how many places each explorer takes, and how many are left.
func takenByWords(r impl.Road, starts []int, budgets []int, x int, order []int, back bool) ([]int, int) {
	taken := make([]int, len(starts))
	next, left := x, r.Size
	for _, i := range order {
		for n := 1; n <= left && runTimeByWalking(r, starts[i], next, n, back) <= budgets[i]; n++ {
			taken[i] = n
		}
		next, left = (next+taken[i])%r.Size, left-taken[i]
	}
	return taken, left
}

// ordersOf returns all orders of k explorers, the least one first.
func ordersOf(k int) [][]int {
	orders := [][]int{{}}
	for range k {
		longer := [][]int{}
		for _, order := range orders {
			for i := range k {
				if !slices.Contains(order, i) {
					longer = append(longer, append(slices.Clone(order), i))
				}
			}
		}
		orders = longer
	}
	return orders
}

// firstOrderByWords returns the first place and order with which no place is left.
func firstOrderByWords(r impl.Road, starts []int, budgets []int, back bool) (int, []int, bool) {
	for x := range r.Size {
		for _, order := range ordersOf(len(starts)) {
			if _, left := takenByWords(r, starts, budgets, x, order, back); left == 0 {
				return x, order, true
			}
		}
		if !r.Ring {
			break
		}
	}
	return 0, []int{}, false
}

// widestSets returns the sets of places that an explorer can have visited within its budget, without those that are parts of other ones.
func widestSets(r impl.Road, a int, budget int, back bool) []int {
	within := []int{}
	for set, time := range setTimes(r, a, back) {
		if time <= budget {
			within = append(within, set)
		}
	}
	return slices.DeleteFunc(slices.Clone(within), func(set int) bool {
		return slices.ContainsFunc(within, func(wider int) bool { return wider != set && wider&set == set })
	})
}

// canVisitAll tells whether explorers can have visited all places within their budgets, whatever walks they take.
func canVisitAll(r impl.Road, starts []int, budgets []int, back bool) bool {
	sets := [][]int{}
	for i := range starts {
		sets = append(sets, widestSets(r, starts[i], budgets[i], back))
	}
	return canComplete(sets, 0, 1<<r.Size-1)
}

func canComplete(sets [][]int, visited int, all int) bool {
	if len(sets) == 0 {
		return visited == all
	}
	return slices.ContainsFunc(sets[0], func(set int) bool { return canComplete(sets[1:], visited|set, all) })
}

// reachByWalking returns the least time in which explorers can have visited all places.
func reachByWalking(r impl.Road, starts []int, back bool) int {
	time := 0
	for !canVisitAll(r, starts, slices.Repeat([]int{time}, len(starts)), back) {
		time++
	}
	return time
}

// listsBelow yields all lists of k numbers in 0..n-1.
func listsBelow(n int, k int) func(func([]int) bool) {
	return func(yield func([]int) bool) {
		list := make([]int, k)
		for {
			if !yield(slices.Clone(list)) {
				return
			}
			i := 0
			for i < k && list[i] == n-1 {
				list[i] = 0
				i++
			}
			if i == k {
				return
			}
			list[i]++
		}
	}
}

// someExplorers returns explorers at places of all parts of a road, also at the same ones, by fixed rules.
func someExplorers(r impl.Road, rules int) [][]int {
	all := [][]int{}
	for rule := range rules {
		starts := []int{}
		for i := range rule%4 + 1 {
			starts = append(starts, (rule*7+i*i*(rule/3)+i*5)%r.Size)
		}
		all = append(all, starts)
	}
	return append(all, []int{0}, []int{r.Size - 1}, []int{r.Size / 2}, []int{0, 0, 0, 0}, []int{0, r.Size - 1}, []int{r.Size / 2, r.Size / 2, r.Size / 2}, []int{r.Size - 1, 0, 0, r.Size - 1})
}

// wrongExplorers returns lists that are no explorers on a road.
func wrongExplorers(r impl.Road) [][]int {
	all := [][]int{nil, {}, {0, 1, 0, 1, 0}, {0, 0, 0, 0, 0}, slices.Repeat([]int{1}, 6), make([]int, 100000)}
	for _, p := range wrongPlaces(r) {
		if p < 0 || p >= r.Size {
			all = append(all, []int{p}, []int{p, 0}, []int{0, p}, []int{0, 1, 0, p}, []int{p, p, p, p})
		}
	}
	return all
}

// wrongBudgets returns lists that are no budgets of k explorers.
func wrongBudgets(k int) [][]int {
	all := [][]int{nil, {}, slices.Repeat([]int{9}, k+1), slices.Repeat([]int{9}, k-1), make([]int, 100000)}
	for _, b := range []int{-1, 100, 101, -99, math.MaxInt, math.MinInt} {
		for i := range k {
			budgets := slices.Repeat([]int{9}, k)
			budgets[i] = b
			all = append(all, budgets)
		}
	}
	return all
}

func wantTaken(t *testing.T, r impl.Road, starts []int, budgets []int, x int, order []int, back bool) {
	t.Helper()
	want, _ := takenByWords(r, starts, budgets, x, order, back)
	taken, ok := impl.TakenRuns(r, starts, budgets, x, order, back)
	if !ok || !slices.Equal(taken, want) {
		t.Errorf("TakenRuns(%v, %v, %v, %d, %v, %v) = %v, %v; want %v", r, starts, budgets, x, order, back, taken, ok, want)
	}
}

func wantNoTaken(t *testing.T, r impl.Road, starts []int, budgets []int, x int, order []int) {
	t.Helper()
	for _, back := range []bool{false, true} {
		taken, ok := impl.TakenRuns(r, starts, budgets, x, order, back)
		wantNoList(t, "TakenRuns", taken, ok)
	}
}

func wantOrder(t *testing.T, r impl.Road, starts []int, budgets []int, back bool, x int, order []int, can bool) {
	t.Helper()
	first, got, ok := impl.FirstOrder(r, starts, budgets, back)
	if ok != can || first != x || !slices.Equal(got, order) {
		t.Errorf("FirstOrder(%v, %v, %v, %v) = %d, %v, %v; want %d, %v, %v", r, starts, budgets, back, first, got, ok, x, order, can)
	}
}

func wantCan(t *testing.T, r impl.Road, starts []int, budgets []int, can bool, fine bool) {
	t.Helper()
	if got, ok := impl.CanReach(r, starts, budgets); ok != fine || got != can {
		t.Errorf("CanReach(%v, %v, %v) = %v, %v; want %v, %v", r, starts, budgets, got, ok, can, fine)
	}
}

func wantAreExplorers(t *testing.T, r impl.Road, starts []int, want bool, fine bool) {
	t.Helper()
	if are, ok := impl.AreExplorers(r, starts); are != want || ok != fine {
		t.Errorf("AreExplorers(%v, %.50v) = %v, %v; want %v, %v", r, starts, are, ok, want, fine)
	}
}

func TestLimitsOfExploring(t *testing.T) {
	if impl.MaxExplorers != 4 || impl.MaxBudget != 99 {
		t.Error("limits", impl.MaxExplorers, impl.MaxBudget)
	}
}

func TestAreExplorers(t *testing.T) {
	for _, r := range allRoads(24) {
		for _, starts := range someExplorers(r, 20) {
			wantAreExplorers(t, r, starts, true, true)
		}
		for n := 0; n <= 9; n++ {
			wantAreExplorers(t, r, slices.Repeat([]int{r.Size - 1}, n), n >= 1 && n <= 4, true)
		}
		for p := -2; p <= 30; p++ {
			wantAreExplorers(t, r, []int{p}, p >= 0 && p < r.Size, true)
			wantAreExplorers(t, r, []int{0, 1, 1, p}, p >= 0 && p < r.Size, true)
		}
		for _, starts := range wrongExplorers(r) {
			wantAreExplorers(t, r, starts, false, true)
		}
	}
	for _, r := range wrongRoads {
		for _, starts := range [][]int{nil, {}, {0}, {0, 1}, {1, 1, 1, 1}, {-1}, {24}} {
			wantAreExplorers(t, r, starts, false, false)
		}
	}
}

func TestRunPlacesKnown(t *testing.T) {
	known := []struct {
		road impl.Road
		x, n int
		want []int
	}{
		{ring(4), 3, 2, []int{3, 0}}, {line(5), 0, 0, []int{}}, {line(5), 4, 0, []int{}}, {ring(5), 2, 0, []int{}}, {line(5), 2, 1, []int{2}}, {line(5), 4, 1, []int{4}}, {ring(5), 4, 1, []int{4}}, {line(5), 2, 3, []int{2, 3, 4}},
		{line(5), 0, 5, []int{0, 1, 2, 3, 4}}, {ring(5), 0, 5, []int{0, 1, 2, 3, 4}}, {ring(5), 3, 5, []int{3, 4, 0, 1, 2}}, {ring(5), 3, 3, []int{3, 4, 0}}, {ring(3), 1, 2, []int{1, 2}}, {line(2), 1, 1, []int{1}}, {line(2), 0, 2, []int{0, 1}},
	}
	for _, k := range known {
		places, ok := impl.RunPlaces(k.road, k.x, k.n)
		wantList(t, "RunPlaces", places, ok, k.want)
	}
}

// TestRuns takes all runs of all roads, and those that go too far, for explorers at all places.
func TestRuns(t *testing.T) {
	for _, r := range allRoads(24) {
		for x := range r.Size {
			for n := -2; n <= r.Size+2; n++ {
				if n < 0 || n > r.Size || !r.Ring && x+n > r.Size {
					checkNoRun(t, r, x, n)
					continue
				}
				places, ok := impl.RunPlaces(r, x, n)
				wantList(t, "RunPlaces", places, ok, runByWords(r, x, n))
				for p := range r.Size {
					checkRun(t, r, p, x, n)
				}
			}
			for _, n := range []int{math.MaxInt, math.MaxInt - x, math.MaxInt - x + 1, math.MinInt, math.MinInt + x, -r.Size} {
				checkNoRun(t, r, x, n)
			}
		}
	}
}

func checkRun(t *testing.T, r impl.Road, p int, x int, n int) {
	t.Helper()
	for _, back := range []bool{false, true} {
		want := runTimeByWalking(r, p, x, n, back)
		if time, ok := impl.RunTime(r, p, x, n, back); !ok || time != want {
			t.Errorf("RunTime(%v, %d, %d, %d, %v) = %d, %v; want %d", r, p, x, n, back, time, ok, want)
		}
	}
	places, _ := impl.RunPlaces(r, x, n)
	tour, _ := impl.TourTime(r, p, places)
	once, ok := impl.RunTime(r, p, x, n, false)
	wantNumber(t, "RunTime beside TourTime", once, ok, tour)
}

func checkNoRun(t *testing.T, r impl.Road, x int, n int) {
	t.Helper()
	places, ok := impl.RunPlaces(r, x, n)
	wantNoList(t, "RunPlaces", places, ok)
	for _, back := range []bool{false, true} {
		for _, p := range []int{0, 1, r.Size - 1} {
			time, ok := impl.RunTime(r, p, x, n, back)
			wantNoNumber(t, "RunTime", time, ok)
		}
	}
}

func TestRunTimeKnown(t *testing.T) {
	known := []struct {
		name        string
		road        impl.Road
		p, x, n     int
		once, twice int
	}{
		{"no place", line(7), 3, 0, 0, 0, 0}, {"no place of a ring", ring(7), 3, 6, 0, 0, 0}, {"its own place", line(7), 3, 3, 1, 0, 0}, {"its own place of a ring", ring(7), 0, 0, 1, 0, 0}, {"another place", line(7), 3, 6, 1, 3, 6},
		{"inside", line(7), 3, 2, 3, 3, 4}, {"inside, nearer to the end", line(7), 3, 1, 4, 4, 6}, {"inside, nearer to the begin", line(7), 3, 2, 4, 4, 6}, {"all from the middle", line(7), 3, 0, 7, 9, 12}, {"all from an end", line(7), 6, 0, 7, 6, 12},
		{"at the begin", line(7), 3, 3, 3, 2, 4}, {"at the end", line(7), 3, 1, 3, 2, 4}, {"beside the begin", line(7), 3, 4, 3, 3, 6}, {"beside the end", line(7), 3, 0, 2, 3, 6}, {"just beside", line(7), 3, 4, 1, 1, 2},
		{"inside, past the last place", ring(6), 0, 4, 4, 4, 6}, {"beside, both ways", ring(6), 0, 3, 2, 3, 6}, {"all of a ring", ring(6), 0, 5, 6, 5, 6}, {"all but its own place", ring(6), 0, 1, 5, 5, 6}, {"opposite", ring(6), 0, 3, 1, 3, 6}, {"near, upwards", ring(6), 0, 2, 1, 2, 4}, {"near, downwards", ring(6), 0, 4, 1, 2, 4},
		{"a ring, downwards", ring(8), 0, 5, 2, 3, 6}, {"a ring, inside", ring(8), 0, 7, 4, 4, 6}, {"going round is as short", ring(8), 0, 5, 6, 7, 8}, {"going round is shorter", ring(8), 0, 4, 7, 7, 8}, {"at the end, on a ring", ring(8), 0, 6, 3, 2, 4}, {"at the begin, on a ring", ring(8), 6, 6, 4, 3, 6},
		{"a small ring", ring(3), 1, 2, 2, 2, 3}, {"a small line", line(2), 0, 1, 1, 1, 2}, {"the longest", line(24), 11, 0, 24, 34, 46}, {"a great ring", ring(24), 5, 17, 1, 12, 24}, {"round a great ring", ring(24), 5, 0, 24, 23, 24},
	}
	for _, k := range known {
		once, ok := impl.RunTime(k.road, k.p, k.x, k.n, false)
		wantNumber(t, "RunTime: "+k.name, once, ok, k.once)
		twice, ok := impl.RunTime(k.road, k.p, k.x, k.n, true)
		wantNumber(t, "RunTime with return: "+k.name, twice, ok, k.twice)
	}
}

func TestRunsOfOtherPlacesAndRoads(t *testing.T) {
	for _, r := range allRoads(24) {
		for _, p := range wrongPlaces(r) {
			if p >= 0 && p < r.Size {
				continue
			}
			for _, n := range []int{0, 1, 2, r.Size} {
				checkNoRun(t, r, p, n)
				for _, back := range []bool{false, true} {
					time, ok := impl.RunTime(r, p, 0, n, back)
					wantNoNumber(t, "RunTime", time, ok)
				}
			}
		}
	}
	for _, r := range wrongRoads {
		for _, x := range []int{0, 1, -1} {
			for _, n := range []int{0, 1, 2, math.MaxInt} {
				checkNoRun(t, r, x, n)
			}
		}
	}
}

func TestTakenRunsKnown(t *testing.T) {
	known := []struct {
		name            string
		road            impl.Road
		starts, budgets []int
		x               int
		order           []int
		once, twice     []int
	}{
		{"one after the other", line(5), []int{2, 2}, []int{2, 2}, 0, []int{0, 1}, []int{3, 2}, []int{0, 0}}, {"for each explorer, not in the order", line(5), []int{2, 2}, []int{2, 2}, 0, []int{1, 0}, []int{2, 3}, []int{0, 0}}, {"twice the time", line(5), []int{2, 2}, []int{4, 4}, 0, []int{0, 1}, []int{4, 1}, []int{3, 2}},
		{"all taken before", line(5), []int{0, 4}, []int{8, 99}, 0, []int{0, 1}, []int{5, 0}, []int{5, 0}}, {"none of three behind", ring(5), []int{0, 0, 1, 2}, []int{99, 99, 99, 99}, 3, []int{2, 0, 1, 3}, []int{0, 0, 5, 0}, []int{0, 0, 5, 0}}, {"none behind because all is taken", line(3), []int{0, 2, 1}, []int{1, 1, 9}, 0, []int{0, 1, 2}, []int{2, 1, 0}, []int{1, 0, 2}},
		{"no time", line(2), []int{0, 1}, []int{0, 0}, 0, []int{0, 1}, []int{1, 1}, []int{1, 1}}, {"no time, and the next one goes on from there", line(2), []int{0, 1}, []int{0, 0}, 0, []int{1, 0}, []int{1, 0}, []int{1, 0}}, {"too small to come there", line(5), []int{4, 0}, []int{3, 3}, 0, []int{0, 1}, []int{0, 4}, []int{0, 2}},
		{"inside", ring(6), []int{0, 3}, []int{4, 2}, 4, []int{0, 1}, []int{4, 2}, []int{3, 0}}, {"all of the ring", ring(6), []int{0}, []int{5}, 2, []int{0}, []int{6}, []int{1}}, {"all of the ring, with return", ring(6), []int{0}, []int{6}, 2, []int{0}, []int{6}, []int{6}},
		{"one less", ring(6), []int{0}, []int{4}, 0, []int{0}, []int{5}, []int{3}}, {"much time", line(24), []int{11}, []int{99}, 0, []int{0}, []int{24}, []int{24}}, {"nothing is visited", line(3), []int{2, 2}, []int{1, 0}, 0, []int{1, 0}, []int{0, 0}, []int{0, 0}},
	}
	for _, k := range known {
		once, ok := impl.TakenRuns(k.road, k.starts, k.budgets, k.x, k.order, false)
		wantList(t, "TakenRuns: "+k.name, once, ok, k.once)
		twice, ok := impl.TakenRuns(k.road, k.starts, k.budgets, k.x, k.order, true)
		wantList(t, "TakenRuns with return: "+k.name, twice, ok, k.twice)
	}
}

// TestTakenRunsOfAllOrders goes through all begins and orders of some explorers with small and great budgets.
func TestTakenRunsOfAllOrders(t *testing.T) {
	for _, r := range allRoads(24) {
		for i, starts := range someExplorers(r, 12) {
			budgets := []int{}
			for j := range starts {
				budgets = append(budgets, [...]int{0, 3, 7, 1, 12, 5, 99}[(i+3*j)%7])
			}
			for _, order := range ordersOf(len(starts)) {
				for x := range r.Size {
					if x > 0 && !r.Ring {
						wantNoTaken(t, r, starts, budgets, x, order)
						continue
					}
					wantTaken(t, r, starts, budgets, x, order, false)
					wantTaken(t, r, starts, budgets, x, order, true)
				}
			}
		}
	}
}

func TestTakenRunsOfOtherOrders(t *testing.T) {
	starts, budgets := []int{0, 2, 1}, []int{0, 9, 99}
	for _, r := range []impl.Road{line(4), ring(4)} {
		for _, order := range [][]int{nil, {}, {0}, {0, 1}, {1, 2}, {0, 0, 1}, {0, 1, 1}, {2, 1, 2}, {0, 0, 0}, {0, 1, 3}, {1, 2, 3}, {-1, 0, 1}, {0, 1, 2, 0}, {0, 1, 2, 2}, {0, 1, 2, 3}, {0, 1, math.MaxInt}, {math.MinInt, 1, 2}, make([]int, 100000)} {
			wantNoTaken(t, r, starts, budgets, 0, order)
		}
		for _, order := range ordersOf(3) {
			wantTaken(t, r, starts, budgets, 0, order, true)
			for _, x := range []int{-1, 4, 5, -4, math.MaxInt, math.MinInt} {
				wantNoTaken(t, r, starts, budgets, x, order)
			}
		}
	}
	wantNoTaken(t, line(4), starts, budgets, 1, []int{0, 1, 2})
	wantNoTaken(t, line(4), starts, budgets, 3, []int{0, 1, 2})
	wantTaken(t, ring(4), starts, budgets, 3, []int{0, 1, 2}, false)
}

func TestFirstOrderKnown(t *testing.T) {
	known := []struct {
		name            string
		road            impl.Road
		starts, budgets []int
		back            bool
		x               int
		order           []int
		can             bool
	}{
		{"either order", line(5), []int{2, 2}, []int{2, 2}, false, 0, []int{0, 1}, true}, {"just the other order", line(5), []int{4, 0}, []int{1, 2}, false, 0, []int{1, 0}, true}, {"no order", line(5), []int{4, 0}, []int{1, 1}, false, 0, nil, false}, {"none with return", line(5), []int{2, 2}, []int{4, 3}, true, 0, nil, false},
		{"with return", line(5), []int{2, 2}, []int{4, 4}, true, 0, []int{0, 1}, true}, {"one alone", line(5), []int{2}, []int{6}, false, 0, []int{0}, true}, {"one alone has too little time", line(5), []int{2}, []int{5}, false, 0, nil, false}, {"the first takes all", line(5), []int{2, 0}, []int{6, 0}, false, 0, []int{0, 1}, true},
		{"one with no time takes its own place", line(5), []int{2, 0}, []int{5, 0}, false, 0, []int{1, 0}, true}, {"no time at all", line(2), []int{1, 0}, []int{0, 0}, true, 0, []int{1, 0}, true}, {"just one order of three", line(6), []int{3, 5, 1}, []int{1, 1, 1}, false, 0, []int{2, 0, 1}, true},
		{"a ring from 0 on", ring(4), []int{1, 3}, []int{1, 1}, false, 0, []int{0, 1}, true}, {"a ring from elsewhere on", ring(3), []int{1, 2}, []int{0, 1}, false, 1, []int{0, 1}, true}, {"many begins and orders", ring(6), []int{0, 3}, []int{4, 2}, false, 0, []int{0, 1}, true}, {"no begin", ring(6), []int{0, 3}, []int{1, 2}, false, 0, nil, false},
		{"round the ring", ring(6), []int{4}, []int{5}, false, 0, []int{0}, true}, {"round the ring and back", ring(6), []int{4}, []int{6}, true, 0, []int{0}, true}, {"not back in time", ring(6), []int{4}, []int{5}, true, 0, nil, false}, {"four", ring(24), []int{0, 6, 12, 18}, []int{5, 5, 5, 5}, false, 0, []int{0, 1, 2, 3}, true},
	}
	for _, k := range known {
		if x, order, can := firstOrderByWords(k.road, k.starts, k.budgets, k.back); can != k.can || x != k.x || !slices.Equal(order, k.order) {
			t.Errorf("%s: expected %d, %v, %v, but by words %d, %v, %v", k.name, k.x, k.order, k.can, x, order, can)
		}
		wantOrder(t, k.road, k.starts, k.budgets, k.back, k.x, k.order, k.can)
		if !k.back {
			wantCan(t, k.road, k.starts, k.budgets, k.can, true)
		}
	}
}

// TestJustOneOrder takes explorers that visit all places in one order only, which is not the first one of all.
func TestJustOneOrder(t *testing.T) {
	for order, k := range map[[3]int][3][]int{{2, 0, 1}: {{3, 5, 1}, {1, 1, 1}}, {1, 2, 0}: {{5, 0, 3}, {2, 1, 1}}, {2, 1, 0}: {{5, 3, 1}, {0, 3, 1}}} {
		ways := 0
		for _, other := range ordersOf(3) {
			if _, left := takenByWords(line(6), k[0], k[1], 0, other, false); left == 0 {
				ways++
			}
		}
		if ways != 1 {
			t.Errorf("explorers at %v with %v visit all places in %d orders", k[0], k[1], ways)
		}
		wantOrder(t, line(6), k[0], k[1], false, 0, order[:], true)
	}
}

// checkOrder holds the first order against trying all, and both against all walks that the explorers can take.
func checkOrder(t *testing.T, r impl.Road, starts []int, budgets []int) {
	t.Helper()
	for _, back := range []bool{false, true} {
		x, order, can := firstOrderByWords(r, starts, budgets, back)
		wantOrder(t, r, starts, budgets, back, x, order, can)
		if canVisitAll(r, starts, budgets, back) != can {
			t.Errorf("on %v explorers at %v with %v, back %v, have a first order: %v", r, starts, budgets, back, can)
		}
		if !back {
			wantCan(t, r, starts, budgets, can, true)
		}
	}
}

// TestFirstOrdersOfSmallRoads takes all explorers with all small budgets.
func TestFirstOrdersOfSmallRoads(t *testing.T) {
	for limits, roads := range map[[2]int][]impl.Road{{1, 9}: allRoads(6), {2, 6}: allRoads(5), {3, 3}: allRoads(4), {4, 1}: allRoads(4)} {
		for _, r := range roads {
			for starts := range listsBelow(r.Size, limits[0]) {
				for budgets := range listsBelow(limits[1]+1, limits[0]) {
					checkOrder(t, r, starts, budgets)
				}
			}
		}
	}
}

func TestFirstOrdersOfGreatRoads(t *testing.T) {
	for _, size := range []int{7, 8, 13, 16, 23, 24} {
		for _, r := range []impl.Road{line(size), ring(size)} {
			for i, starts := range someExplorers(r, 12) {
				reach := reachByWalking(r, starts, i%2 == 0)
				for _, less := range []int{0, 1, 2} {
					budgets := slices.Repeat([]int{reach}, len(starts))
					budgets[i%len(starts)] = max(0, reach-less)
					checkOrder(t, r, starts, budgets)
				}
			}
		}
	}
}

func TestReachAndReturnTimesKnown(t *testing.T) {
	known := []struct {
		road        impl.Road
		starts      []int
		once, twice int
	}{
		{line(5), []int{2, 2}, 2, 4}, {line(5), []int{2}, 6, 8}, {ring(5), []int{0}, 4, 5}, {line(24), []int{11}, 34, 46}, {line(24), []int{0}, 23, 46}, {line(2), []int{0, 1}, 0, 0}, {line(2), []int{0}, 1, 2}, {line(2), []int{1, 1, 1, 1}, 1, 2}, {ring(3), []int{2}, 2, 3},
		{ring(6), []int{0, 3}, 2, 4}, {ring(24), []int{0, 0, 0, 0}, 12, 24}, {ring(24), []int{7}, 23, 24}, {line(24), []int{0, 23}, 11, 22}, {line(6), []int{0, 5, 0}, 2, 4}, {line(4), []int{3, 1, 0, 2}, 0, 0}, {ring(4), []int{3, 1, 0, 2}, 0, 0}, {line(3), []int{1, 1}, 1, 2}, {line(3), []int{1}, 3, 4},
	}
	for _, k := range known {
		once, ok := impl.ReachTime(k.road, k.starts)
		wantNumber(t, "ReachTime", once, ok, k.once)
		twice, ok := impl.ReturnTime(k.road, k.starts)
		wantNumber(t, "ReturnTime", twice, ok, k.twice)
	}
}

// checkReach holds the promise: within the reach time, all places are visited, by runs that are told, and before it, they are not, by any walks.
func checkReach(t *testing.T, r impl.Road, starts []int) {
	t.Helper()
	want := reachByWalking(r, starts, false)
	reach, ok := impl.ReachTime(r, starts)
	if !ok || reach != want {
		t.Errorf("ReachTime(%v, %v) = %d, %v; want %d", r, starts, reach, ok, want)
	}
	checkVisited(t, r, starts, reach, false)
	home, ok := impl.ReturnTime(r, starts)
	if want = reachByWalking(r, starts, true); !ok || home != want || home < reach {
		t.Errorf("ReturnTime(%v, %v) = %d, %v; want %d; ReachTime %d", r, starts, home, ok, want, reach)
	}
	checkVisited(t, r, starts, home, true)
	bound, ok := impl.ExploreBound(r, starts)
	if !ok || bound != boundByWords(r, starts) || bound > reach {
		t.Errorf("ExploreBound(%v, %v) = %d, %v; ReachTime %d", r, starts, bound, ok, reach)
	}
}

// checkVisited holds that runs within a time visit all places once each, and that there are none for less time.
func checkVisited(t *testing.T, r impl.Road, starts []int, time int, back bool) {
	t.Helper()
	budgets := slices.Repeat([]int{time}, len(starts))
	x, order, ok := impl.FirstOrder(r, starts, budgets, back)
	taken, fine := impl.TakenRuns(r, starts, budgets, x, order, back)
	visited := []int{}
	for _, i := range order {
		run, _ := impl.RunPlaces(r, x, taken[i])
		visited = append(visited, run...)
		if spent, isRun := impl.RunTime(r, starts[i], x, taken[i], back); !isRun || spent > time {
			t.Errorf("on %v the run %v takes %d from %d", r, run, spent, starts[i])
		}
		x = (x + taken[i]) % r.Size
	}
	slices.Sort(visited)
	if !ok || !fine || !slices.Equal(visited, runByWords(r, 0, r.Size)) {
		t.Errorf("on %v explorers at %v visit %v within %d, back %v", r, starts, visited, time, back)
	}
	if !back {
		wantCan(t, r, starts, budgets, true, true)
	}
	if time > 0 {
		less := slices.Repeat([]int{time - 1}, len(starts))
		wantOrder(t, r, starts, less, back, 0, nil, false)
		if !back {
			wantCan(t, r, starts, less, false, true)
		}
	}
}

func TestAllPlacesAreVisitedWithinTheReachTime(t *testing.T) {
	for i, most := range []int{24, 12, 6, 4} {
		for _, r := range allRoads(most) {
			for starts := range listsBelow(r.Size, i+1) {
				checkReach(t, r, starts)
			}
		}
	}
	for _, size := range []int{9, 12, 17, 24} {
		for _, r := range []impl.Road{line(size), ring(size)} {
			for _, starts := range someExplorers(r, 16) {
				checkReach(t, r, starts)
			}
		}
	}
}

// TestOneMoreExplorer holds that no time gets greater with one more explorer, wherever it begins.
func TestOneMoreExplorer(t *testing.T) {
	for _, size := range []int{2, 3, 4, 7, 10, 24} {
		for _, r := range []impl.Road{line(size), ring(max(3, size))} {
			for _, starts := range someExplorers(r, 12) {
				if len(starts) == 4 {
					continue
				}
				reach, _ := impl.ReachTime(r, starts)
				home, _ := impl.ReturnTime(r, starts)
				for p := range r.Size {
					more := append([]int{p}, starts...)
					once, ok := impl.ReachTime(r, more)
					twice, fine := impl.ReturnTime(r, more)
					if !ok || !fine || once > reach || twice > home || once > twice {
						t.Errorf("on %v %v have the times %d and %d, but %v have %d and %d", r, starts, reach, home, more, once, twice)
					}
				}
			}
		}
	}
}

// boundByWords returns the bound with gaps by going from neighbor to neighbor.
func boundByWords(r impl.Road, starts []int) int {
	farthest, free := 0, 0
	for p := range r.Size {
		steps, near := leastSteps(r, p), r.Size
		for _, a := range starts {
			near = min(near, steps[a])
		}
		farthest = max(farthest, near)
		if !slices.Contains(starts, p) {
			free++
		}
	}
	each := 0
	for each*len(starts) < free {
		each++
	}
	return max(farthest, each)
}

func TestExploreBoundKnown(t *testing.T) {
	known := []struct {
		name   string
		road   impl.Road
		starts []int
		want   int
	}{
		{"both", line(5), []int{2, 2}, 2}, {"of the gap", line(5), []int{0, 0, 0, 0}, 4}, {"of the number", line(5), []int{2}, 4}, {"of the number on a ring", ring(6), []int{0, 3}, 2}, {"rounded up", ring(7), []int{0, 3}, 3}, {"no places are left", line(2), []int{1, 0}, 0}, {"none are left for four", ring(4), []int{3, 1, 0, 2}, 0},
		{"three at two places", line(5), []int{1, 3, 3}, 1}, {"from an end", line(24), []int{0}, 23}, {"one on a ring", ring(24), []int{5}, 23}, {"of the gap on a ring", ring(24), []int{5, 5, 5}, 12}, {"one is left for four", line(4), []int{0, 1, 3, 3}, 1}, {"behind the last explorer", line(9), []int{0, 2, 3, 4}, 4},
	}
	for _, k := range known {
		bound, ok := impl.ExploreBound(k.road, k.starts)
		wantNumber(t, "ExploreBound: "+k.name, bound, ok, k.want)
	}
}

func TestExploreBoundOfAll(t *testing.T) {
	for _, r := range allRoads(24) {
		for _, starts := range someExplorers(r, 40) {
			bound, ok := impl.ExploreBound(r, starts)
			wantNumber(t, "ExploreBound", bound, ok, boundByWords(r, starts))
		}
	}
}

// TestExplorersThatAreNot gives wrong explorers, wrong budgets and wrong roads to all functions that take them.
func TestExplorersThatAreNot(t *testing.T) {
	for _, r := range []impl.Road{line(2), line(3), line(24), ring(3), ring(4), ring(24)} {
		for _, starts := range wrongExplorers(r) {
			checkNoExplorers(t, r, starts)
			checkNoBudgets(t, r, starts, make([]int, len(starts)))
		}
		for _, starts := range someExplorers(r, 8) {
			for _, budgets := range wrongBudgets(len(starts)) {
				checkNoBudgets(t, r, starts, budgets)
			}
			for _, b := range []int{0, 99} {
				if _, ok := impl.CanReach(r, starts, slices.Repeat([]int{b}, len(starts))); !ok {
					t.Error("budgets are not valid:", b)
				}
			}
		}
	}
	for _, r := range wrongRoads {
		for _, starts := range [][]int{nil, {0}, {0, 1}, {1, 1, 1, 1}, {-1}} {
			checkNoExplorers(t, r, starts)
			checkNoBudgets(t, r, starts, slices.Repeat([]int{50}, len(starts)))
		}
	}
}

func checkNoExplorers(t *testing.T, r impl.Road, starts []int) {
	t.Helper()
	reach, ok := impl.ReachTime(r, starts)
	wantNoNumber(t, "ReachTime", reach, ok)
	home, ok := impl.ReturnTime(r, starts)
	wantNoNumber(t, "ReturnTime", home, ok)
	bound, ok := impl.ExploreBound(r, starts)
	wantNoNumber(t, "ExploreBound", bound, ok)
}

func checkNoBudgets(t *testing.T, r impl.Road, starts []int, budgets []int) {
	t.Helper()
	order := runByWords(ring(24), 0, min(24, len(starts)))
	wantNoTaken(t, r, starts, budgets, 0, order)
	wantNoTaken(t, r, starts, budgets, 0, order[:min(len(order), len(budgets))])
	wantOrder(t, r, starts, budgets, false, 0, nil, false)
	wantOrder(t, r, starts, budgets, true, 0, nil, false)
	wantCan(t, r, starts, budgets, false, false)
}

// leaveByGoing returns the leave time of an exit, time by time: leavers walk until one of them finds it, and then go there step by step.
func leaveByGoing(r impl.Road, walks [][]int, exit int) int {
	steps := leastSteps(r, exit)
	for time := range 61 {
		at := []int{}
		for _, w := range walks {
			at = append(at, w[min(time, len(w)-1)])
		}
		if !slices.Contains(at, exit) {
			continue
		}
		for slices.ContainsFunc(at, func(p int) bool { return p != exit }) {
			time++
			for i, p := range at {
				for q := range r.Size {
					if besides(r, p, q) && steps[q] < steps[p] {
						at[i] = q
					}
				}
			}
		}
		return time
	}
	return -1
}

// wantLeave holds the leave times, and the greatest one, against what they are.
func wantLeave(t *testing.T, r impl.Road, walks [][]int, want []int) {
	t.Helper()
	times, ok := impl.LeaveTimes(r, walks)
	if !ok || !slices.Equal(times, want) {
		t.Errorf("LeaveTimes(%v, %v) = %v, %v; want %v", r, walks, times, ok, want)
	}
	worst, ok := impl.WorstLeave(r, walks)
	if slices.Contains(want, -1) {
		wantNoNumber(t, "WorstLeave", worst, ok)
	} else {
		wantNumber(t, "WorstLeave", worst, ok, slices.Max(want))
	}
}

func TestLeaveTimesKnown(t *testing.T) {
	known := []struct {
		road  impl.Road
		walks [][]int
		want  []int
	}{
		{line(3), [][]int{{0, 1, 2}}, []int{0, 1, 2}}, {line(3), [][]int{{0, 1, 2}, {2, 1}}, []int{2, 1, 2}}, {line(3), [][]int{{1}}, []int{-1, 0, -1}}, {line(2), [][]int{{1, 1, 0}}, []int{2, 0}}, {line(2), [][]int{{1, 0, 1, 0}}, []int{1, 0}}, {line(2), [][]int{{0}, {1}}, []int{1, 1}},
		{line(5), [][]int{{2}, {2, 3, 4}}, []int{-1, -1, 0, 2, 4}}, {line(5), [][]int{{2, 3, 4}, {2}}, []int{-1, -1, 0, 2, 4}}, {line(5), [][]int{{2, 1, 0}, {2, 3, 4}}, []int{6, 3, 0, 3, 6}}, {line(5), [][]int{{0, 1, 2, 3, 4}, {0}, {0}}, []int{0, 2, 4, 6, 8}}, {line(5), [][]int{{0, 0, 0, 1}, {1, 2, 2, 2, 3, 4}}, []int{1, 1, 3, 6, 8}},
		{ring(4), [][]int{{0, 3, 2}, {0, 1}}, []int{0, 3, 3, 3}}, {ring(4), [][]int{{0, 1, 2, 3}}, []int{0, 1, 2, 3}}, {ring(4), [][]int{{0, 1, 2, 3}, {2}}, []int{2, 2, 2, 4}}, {ring(5), [][]int{{0}, {1}, {2}, {3}}, []int{2, 2, 2, 2, -1}}, {ring(5), [][]int{{0, 4}, {1}, {2}, {3}}, []int{2, 2, 2, 2, 3}},
	}
	for _, k := range known {
		wantLeave(t, k.road, k.walks, k.want)
	}
}

func TestLeaveTimesStepByStep(t *testing.T) {
	check := func(t *testing.T, r impl.Road, walks [][]int) {
		t.Helper()
		want := []int{}
		for exit := range r.Size {
			want = append(want, leaveByGoing(r, walks, exit))
		}
		wantLeave(t, r, walks, want)
	}
	for _, r := range allRoads(4) {
		walks := shortWalks(r, 4)
		for i, one := range walks {
			check(t, r, [][]int{one})
			for j := i % 5; j < len(walks); j += 5 {
				check(t, r, [][]int{one, walks[j]})
				check(t, r, [][]int{walks[j], one, walks[(i*j+3)%len(walks)]})
			}
		}
	}
	for _, r := range allRoads(24) {
		walks := someWalks(r)
		for i := range walks {
			for k := 1; k <= 4; k++ {
				check(t, r, slices.Concat(walks, walks)[i:i+k])
			}
		}
	}
}

// TestSingleLeaver holds that the worst leave of one leaver is its cover time.
func TestSingleLeaver(t *testing.T) {
	checkWalks(t, 5, func(t *testing.T, r impl.Road, w []int) {
		cover, covers := impl.CoverTime(r, w)
		worst, ok := impl.WorstLeave(r, [][]int{w})
		if ok != covers || worst != cover {
			t.Errorf("WorstLeave(%v, %v) = %d, %v; CoverTime %d, %v", r, w, worst, ok, cover, covers)
		}
	})
}

func TestLeaversThatAreNot(t *testing.T) {
	for _, r := range []impl.Road{line(2), line(4), line(24), ring(3), ring(4), ring(24)} {
		checkNoLeavers(t, r, nil)
		checkNoLeavers(t, r, [][]int{})
		sweep, _ := impl.SweepWalk(r, 0)
		for n := 1; n <= 7; n++ {
			if _, ok := impl.LeaveTimes(r, slices.Repeat([][]int{sweep}, n)); ok != (n <= 4) {
				t.Errorf("%d leavers are valid: %v", n, ok)
			}
		}
		checkNoLeavers(t, r, slices.Repeat([][]int{sweep}, 5))
		checkNoLeavers(t, r, slices.Repeat([][]int{sweep}, 100000))
		for _, w := range wrongWalks(r) {
			if is, _ := impl.IsWalk(r, w); !is {
				checkNoLeavers(t, r, [][]int{w})
				checkNoLeavers(t, r, [][]int{sweep, w})
				checkNoLeavers(t, r, [][]int{sweep, sweep, w, sweep})
			}
		}
	}
	for _, r := range wrongRoads {
		for _, walks := range [][][]int{nil, {{}}, {{0}}, {{0, 1}}, {{0}, {0}}, {{-1}}} {
			checkNoLeavers(t, r, walks)
		}
	}
}

func checkNoLeavers(t *testing.T, r impl.Road, walks [][]int) {
	t.Helper()
	times, ok := impl.LeaveTimes(r, walks)
	wantNoList(t, "LeaveTimes", times, ok)
	worst, ok := impl.WorstLeave(r, walks)
	wantNoNumber(t, "WorstLeave", worst, ok)
}

func TestSplitWalksKnown(t *testing.T) {
	known := []struct {
		road impl.Road
		a    int
		want [][]int
	}{
		{line(5), 1, [][]int{{1, 0}, {1, 2, 3, 4}}}, {line(5), 0, [][]int{{0}, {0, 1, 2, 3, 4}}}, {line(5), 4, [][]int{{4, 3, 2, 1, 0}, {4}}}, {line(5), 2, [][]int{{2, 1, 0}, {2, 3, 4}}}, {line(2), 0, [][]int{{0}, {0, 1}}}, {line(2), 1, [][]int{{1, 0}, {1}}},
		{ring(4), 0, [][]int{{0, 3, 2}, {0, 1}}}, {ring(4), 3, [][]int{{3, 2, 1}, {3, 0}}}, {ring(5), 1, [][]int{{1, 0, 4}, {1, 2, 3}}}, {ring(5), 4, [][]int{{4, 3, 2}, {4, 0, 1}}}, {ring(3), 2, [][]int{{2, 1}, {2, 0}}}, {ring(6), 2, [][]int{{2, 1, 0, 5}, {2, 3, 4}}},
	}
	for _, k := range known {
		walks, ok := impl.SplitWalks(k.road, k.a)
		wantRounds(t, "SplitWalks", walks, ok, k.want)
	}
}

// TestSplitWalks takes all places of all roads, and others.
func TestSplitWalks(t *testing.T) {
	for _, r := range allRoads(24) {
		for a := range r.Size {
			down, up := a, r.Size-1-a
			if r.Ring {
				down, up = r.Size/2, (r.Size-1)/2
			}
			want := [][]int{{}, {}}
			for i := 0; i <= down; i++ {
				want[0] = append(want[0], (a-i+r.Size)%r.Size)
			}
			for i := 0; i <= up; i++ {
				want[1] = append(want[1], (a+i)%r.Size)
			}
			walks, ok := impl.SplitWalks(r, a)
			wantRounds(t, "SplitWalks", walks, ok, want)
			if setOf(slices.Concat(walks...)) != 1<<r.Size-1 {
				t.Errorf("SplitWalks(%v, %d) = %v do not visit all places", r, a, walks)
			}
			if _, leave := impl.WorstLeave(r, walks); !leave {
				t.Errorf("walkers on %v cannot leave by %v", r, walks)
			}
		}
		for _, a := range wrongPlaces(r) {
			if a < 0 || a >= r.Size {
				walks, ok := impl.SplitWalks(r, a)
				wantNoRounds(t, "SplitWalks", walks, ok)
			}
		}
	}
	for _, r := range wrongRoads {
		walks, ok := impl.SplitWalks(r, 0)
		wantNoRounds(t, "SplitWalks", walks, ok)
	}
}

// TestExploringIsKeptApart changes results, and looks whether arguments, later results or other lists have changed with them.
func TestExploringIsKeptApart(t *testing.T) {
	r := ring(6)
	long := []int{77, 0, 3, 3, 88, 4, 2, 1, 99, 2, 0, 1, 66, 0, 1, 2, 3, 4, 5, 55}
	before := slices.Clone(long)
	starts, budgets, order, walks := long[1:4], long[5:8], long[9:12], [][]int{long[13:19], long[13:16], long[13:19]}
	list := func(list []int, ok bool) ([][]int, bool) { return [][]int{list}, ok }
	calls := map[string]func() ([][]int, bool){
		"RunPlaces":  func() ([][]int, bool) { return list(impl.RunPlaces(r, 4, 5)) },
		"TakenRuns":  func() ([][]int, bool) { return list(impl.TakenRuns(r, starts, budgets, 4, order, true)) },
		"LeaveTimes": func() ([][]int, bool) { return list(impl.LeaveTimes(r, walks)) },
		"SplitWalks": func() ([][]int, bool) { return impl.SplitWalks(r, 4) },
		"FirstOrder": func() ([][]int, bool) {
			_, first, ok := impl.FirstOrder(r, starts, budgets, false)
			return [][]int{first}, ok
		},
	}
	checkKeptApart(t, calls)
	impl.AreExplorers(r, starts)
	impl.ReachTime(r, starts)
	impl.ReturnTime(r, starts)
	impl.CanReach(r, starts, budgets)
	impl.ExploreBound(r, starts)
	impl.WorstLeave(r, walks)
	if !slices.Equal(long, before) || !reflect.DeepEqual(walks, [][]int{before[13:19], before[13:16], before[13:19]}) {
		t.Error("arguments have changed:", long, walks)
	}
}
