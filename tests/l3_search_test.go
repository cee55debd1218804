package tests

import (
	"math"
	"slices"
	"testing"

	"loop.example/g01148/impl"
)

// distance returns the gap of two places of a line.
func distance(a int, b int) int { return max(a-b, b-a) }

// isSearchByWords is the document's definition of a search.
func isSearchByWords(r impl.Road, a int, turns []int) bool {
	for i, p := range turns {
		if p < 0 || p >= r.Size || p == a || i > 0 && (p > a) == (turns[i-1] > a) {
			return false
		}
		for _, q := range turns[:i] {
			if (p > a) == (q > a) && distance(a, p) <= distance(a, q) {
				return false
			}
		}
	}
	for p := range r.Size {
		if !isBetween(append(slices.Clone(turns), a), p) {
			return false
		}
	}
	return len(turns) > 0
}

// isBetween tells whether a place is between two of the places, both included.
func isBetween(places []int, p int) bool {
	for _, x := range places {
		for _, y := range places {
			if x <= p && p <= y {
				return true
			}
		}
	}
	return false
}

// everySearch yields all searches: those that reach one new place after another, on any side. They come in no order.
func everySearch(r impl.Road, a int) func(func([]int) bool) {
	return func(yield func([]int) bool) {
		reachNew(r.Size, a, a, nil, yield)
	}
}

func reachNew(size int, low int, high int, turns []int, yield func([]int) bool) bool {
	if low == 0 && high == size-1 {
		return yield(slices.Clone(turns))
	}
	if low > 0 && !reachNew(size, low-1, high, reachedNext(turns, low, low-1), yield) {
		return false
	}
	return high == size-1 || reachNew(size, low, high+1, reachedNext(turns, high, high+1), yield)
}

// reachedNext returns the turning places when the walker goes on to p, straight if it has come to the place before p last.
func reachedNext(turns []int, before int, p int) []int {
	longer := slices.Clone(turns)
	if len(longer) > 0 && longer[len(longer)-1] == before {
		longer = longer[:len(longer)-1]
	}
	return append(longer, p)
}

// orderedSearches returns all searches in order.
func orderedSearches(r impl.Road, a int) [][]int {
	searches := slices.Collect(everySearch(r, a))
	slices.SortFunc(searches, func(x []int, y []int) int {
		if len(x) != len(y) {
			return len(x) - len(y)
		}
		return slices.Compare(x, y)
	})
	return searches
}

// pathOf returns where the walker is at the times 0, 1, .. of a search.
func pathOf(a int, turns []int, extra int) []int {
	path := []int{a}
	for i, p := range turns {
		for at := path[len(path)-1]; at < p; {
			at++
			path = append(path, at)
		}
		for at := path[len(path)-1]; at > p; {
			at--
			path = append(path, at)
		}
		if i < len(turns)-1 {
			path = append(path, slices.Repeat([]int{p}, extra)...)
		}
	}
	return path
}

// timesOnPath returns the times of all places on a search.
func timesOnPath(r impl.Road, a int, turns []int, extra int) []int {
	return visitsByWalking(r, pathOf(a, turns, extra))
}

// ratioOnPath returns the worst place and the ratio, a fraction whose denominator is the least one.
func ratioOnPath(r impl.Road, a int, turns []int, extra int) (int, [2]int) {
	times := timesOnPath(r, a, turns, extra)
	worst := -1
	for p := range r.Size {
		if p != a && (worst < 0 || times[p]*distance(a, worst) > times[worst]*distance(a, p)) {
			worst = p
		}
	}
	for under := 1; ; under++ {
		if over := times[worst] * under; over%distance(a, worst) == 0 {
			return worst, [2]int{over / distance(a, worst), under}
		}
	}
}

// loadOnPath returns the sum of the hefts times the times.
func loadOnPath(r impl.Road, a int, turns []int, hefts []int) int {
	load := 0
	for p, time := range timesOnPath(r, a, turns, 0) {
		load += hefts[p] * time
	}
	return load
}

// someHefts returns lists of hefts for each place of a line.
func someHefts(r impl.Road) [][]int {
	lists := [][]int{make([]int, r.Size), slices.Repeat([]int{99}, r.Size), slices.Repeat([]int{1}, r.Size)}
	for rule := 1; rule <= 6; rule++ {
		hefts := []int{}
		for p := range r.Size {
			hefts = append(hefts, (p*p*31*rule+p*17+rule*rule*57)%100)
		}
		lists = append(lists, hefts)
	}
	for p := range r.Size {
		hefts := make([]int, r.Size)
		hefts[p] = 99
		lists = append(lists, hefts)
	}
	return lists
}

var someExtras = []int{0, 1, 2, 5, 9}

var wrongExtras = []int{-1, 10, 11, -9, 100, math.MaxInt, math.MinInt}

func wantRatio(t *testing.T, got [2]int, ok bool, want [2]int) {
	t.Helper()
	if !ok || got != want {
		t.Errorf("SearchRatio = %v, %v; want %v, true", got, ok, want)
	}
}

func wantNoRatio(t *testing.T, got [2]int, ok bool) {
	t.Helper()
	if ok || got != [2]int{} {
		t.Errorf("SearchRatio = %v, %v; want none, false", got, ok)
	}
}

func wantSearches(t *testing.T, got [][]int, ok bool, want [][]int) {
	t.Helper()
	if !ok || !slices.EqualFunc(got, want, slices.Equal[[]int]) {
		t.Errorf("AllSearches = %v, %v; want %v, true", got, ok, want)
	}
}

func wantNoSearches(t *testing.T, got [][]int, ok bool) {
	t.Helper()
	if ok || len(got) != 0 {
		t.Errorf("AllSearches = %v, %v; want none, false", got, ok)
	}
}

func TestLimitsOfSearches(t *testing.T) {
	if impl.MaxSearch != 10 || impl.MaxTurnCost != 9 || impl.MaxHeft != 99 {
		t.Error("limits", impl.MaxSearch, impl.MaxTurnCost, impl.MaxHeft)
	}
}

func TestIsSearchKnown(t *testing.T) {
	known := []struct {
		size, a int
		turns   []int
		want    bool
	}{
		{2, 0, []int{1}, true}, {2, 1, []int{0}, true}, {2, 0, []int{0}, false}, {2, 0, []int{0, 1}, false}, {2, 0, []int{1, 0}, false}, {2, 0, nil, false}, {2, 1, []int{}, false}, {2, 0, []int{1, 1}, false},
		{5, 0, []int{4}, true}, {5, 4, []int{0}, true}, {5, 0, []int{3}, false}, {5, 0, []int{3, 4}, false}, {5, 0, []int{4, 0}, false}, {5, 4, []int{4, 0}, false}, {5, 0, []int{4, 4}, false},
		{5, 2, []int{0, 4}, true}, {5, 2, []int{4, 0}, true}, {5, 2, []int{3, 1, 4, 0}, true}, {5, 2, []int{1, 3, 0, 4}, true}, {5, 2, []int{3, 0, 4}, true},
		{5, 2, []int{2, 0, 4}, false}, {5, 2, []int{0, 2, 4}, false}, {5, 2, []int{0, 4, 2}, false}, {5, 2, []int{3, 4, 0}, false}, {5, 2, []int{0, 4, 4}, false}, {5, 2, []int{0, 4, 0}, false}, {5, 2, []int{4, 0, 4}, false},
		{7, 3, []int{5, 2, 4, 0, 6}, false}, {7, 3, []int{5, 2, 5, 0, 6}, false}, {7, 3, []int{5, 2, 6, 0}, true}, {7, 3, []int{4, 0, 5}, false}, {7, 3, []int{4, 1, 6}, false}, {7, 3, []int{6}, false}, {7, 3, []int{0}, false},
		{5, 1, []int{0, 3}, false}, {5, 1, []int{-1, 4}, false}, {5, 1, []int{0, 5}, false}, {5, 1, []int{-1, 5}, false}, {5, 1, []int{0, 4, -1}, false}, {5, 1, []int{0, 4, -1, 5}, false}, {5, 1, []int{0, math.MaxInt}, false}, {5, 1, []int{math.MinInt, 4}, false},
		{24, 0, []int{23}, true}, {24, 12, []int{13, 11, 14, 10, 15, 9, 16, 8, 17, 7, 18, 6, 19, 5, 20, 4, 21, 3, 22, 2, 23, 0}, true}, {24, 12, []int{13, 11, 14, 10, 15, 9, 16, 8, 17, 7, 18, 6, 19, 5, 20, 4, 21, 3, 22, 2, 23, 1}, false},
	}
	for _, k := range known {
		if is, ok := impl.IsSearch(line(k.size), k.a, k.turns); !ok || is != k.want {
			t.Errorf("IsSearch(%d places, %d, %v) = %v, %v", k.size, k.a, k.turns, is, ok)
		}
	}
	long := slices.Repeat([]int{0, 4}, 100000)
	if is, ok := impl.IsSearch(line(5), 2, long); !ok || is {
		t.Error("a long list is a search")
	}
}

// TestListsOfAnyNumbers takes all short lists of numbers on short lines: those that are searches, and those that are not.
func TestListsOfAnyNumbers(t *testing.T) {
	for size := 2; size <= 6; size++ {
		r := line(size)
		longest := min(size, 5)
		lists := [][]int{{}}
		for i := 0; i < len(lists); i++ {
			for a := range size {
				checkList(t, r, a, lists[i])
			}
			for p := -1; p <= size && len(lists[i]) < longest; p++ {
				lists = append(lists, append(slices.Clone(lists[i]), p))
			}
		}
	}
}

func checkList(t *testing.T, r impl.Road, a int, turns []int) {
	t.Helper()
	want := isSearchByWords(r, a, turns)
	if is, ok := impl.IsSearch(r, a, turns); !ok || is != want {
		t.Fatalf("IsSearch(%v, %d, %v) = %v, %v", r, a, turns, is, ok)
	}
	if want {
		checkSearch(t, r, a, turns, 0)
		checkSearch(t, r, a, turns, 3)
	} else {
		checkNoSearch(t, r, a, turns)
	}
}

// checkSearch follows the walker of a search and holds what is told of it against that.
func checkSearch(t *testing.T, r impl.Road, a int, turns []int, extra int) {
	t.Helper()
	path := pathOf(a, turns, 0)
	walk, ok := impl.SearchWalk(r, a, turns)
	if len(path) <= 61 {
		wantList(t, "SearchWalk", walk, ok, path)
	} else {
		wantNoList(t, "SearchWalk", walk, ok)
	}
	times, ok := impl.SearchTimes(r, a, turns, extra)
	wantList(t, "SearchTimes", times, ok, timesOnPath(r, a, turns, extra))
	worst, want := ratioOnPath(r, a, turns, extra)
	ratio, ok := impl.SearchRatio(r, a, turns, extra)
	wantRatio(t, ratio, ok, want)
	place, ok := impl.WorstPlace(r, a, turns, extra)
	wantNumber(t, "WorstPlace", place, ok, worst)
	count, ok := impl.TurnCount(r, a, turns)
	wantNumber(t, "TurnCount", count, ok, len(turns)-1)
}

// checkNoSearch holds that all functions of searches fail for a list.
func checkNoSearch(t *testing.T, r impl.Road, a int, turns []int) {
	t.Helper()
	hefts := make([]int, max(0, min(r.Size, 30)))
	walk, ok := impl.SearchWalk(r, a, turns)
	wantNoList(t, "SearchWalk", walk, ok)
	times, ok := impl.SearchTimes(r, a, turns, 0)
	wantNoList(t, "SearchTimes", times, ok)
	ratio, ok := impl.SearchRatio(r, a, turns, 0)
	wantNoRatio(t, ratio, ok)
	place, ok := impl.WorstPlace(r, a, turns, 0)
	wantNoNumber(t, "WorstPlace", place, ok)
	load, ok := impl.SearchLoad(r, a, turns, hefts)
	wantNoNumber(t, "SearchLoad", load, ok)
	count, ok := impl.TurnCount(r, a, turns)
	wantNoNumber(t, "TurnCount", count, ok)
}

// TestSearchesStepByStep takes all searches on lines up to 12 places, and some on longer ones.
func TestSearchesStepByStep(t *testing.T) {
	for size := 2; size <= 24; size++ {
		for a := range size {
			r, nth := line(size), 0
			for turns := range everySearch(r, a) {
				nth++
				if size > 12 && nth%37 != 0 && nth > 20 {
					continue
				}
				if is, ok := impl.IsSearch(r, a, turns); !ok || !is {
					t.Errorf("IsSearch(%v, %d, %v) = %v, %v", r, a, turns, is, ok)
				}
				checkSearch(t, r, a, turns, someExtras[nth%len(someExtras)])
				if nth > 3000 {
					break
				}
			}
		}
	}
}

func TestTimesAndRatiosKnown(t *testing.T) {
	known := []struct {
		size, a int
		turns   []int
		extra   int
		times   []int
		ratio   [2]int
		worst   int
	}{
		{2, 0, []int{1}, 0, []int{0, 1}, [2]int{1, 1}, 1}, {2, 1, []int{0}, 9, []int{1, 0}, [2]int{1, 1}, 0},
		{5, 0, []int{4}, 9, []int{0, 1, 2, 3, 4}, [2]int{1, 1}, 1}, {5, 4, []int{0}, 9, []int{4, 3, 2, 1, 0}, [2]int{1, 1}, 0},
		{3, 1, []int{2, 0}, 0, []int{3, 0, 1}, [2]int{3, 1}, 0}, {3, 1, []int{0, 2}, 9, []int{1, 0, 12}, [2]int{12, 1}, 2},
		{5, 2, []int{3, 1, 4, 0}, 1, []int{13, 4, 0, 1, 8}, [2]int{13, 2}, 0}, {5, 2, []int{3, 1, 4, 0}, 0, []int{10, 3, 0, 1, 6}, [2]int{5, 1}, 0},
		{5, 1, []int{2, 0, 4}, 0, []int{3, 0, 1, 6, 7}, [2]int{3, 1}, 0}, {5, 1, []int{2, 0, 4}, 9, []int{12, 0, 1, 24, 25}, [2]int{12, 1}, 0},
		{6, 2, []int{3, 1, 4, 0, 5}, 0, []int{10, 3, 0, 1, 6, 15}, [2]int{5, 1}, 0}, {6, 2, []int{1, 4, 0, 5}, 0, []int{8, 1, 0, 3, 4, 13}, [2]int{13, 3}, 5}, {6, 2, []int{1, 4, 0, 5}, 9, []int{26, 1, 0, 12, 13, 40}, [2]int{40, 3}, 5},
	}
	for _, k := range known {
		times, ok := impl.SearchTimes(line(k.size), k.a, k.turns, k.extra)
		wantList(t, "SearchTimes", times, ok, k.times)
		ratio, ok := impl.SearchRatio(line(k.size), k.a, k.turns, k.extra)
		wantRatio(t, ratio, ok, k.ratio)
		worst, ok := impl.WorstPlace(line(k.size), k.a, k.turns, k.extra)
		wantNumber(t, "WorstPlace", worst, ok, k.worst)
	}
}

// TestWalksAsLongAsMaxTime takes one list from two places: from one its walk has 60 steps, from the other one 61.
func TestWalksAsLongAsMaxTime(t *testing.T) {
	turns := []int{18, 5, 23, 0}
	walk, ok := impl.SearchWalk(line(24), 12, turns)
	wantList(t, "SearchWalk", walk, ok, pathOf(12, turns, 0))
	if len(walk) != 61 {
		t.Error("steps", len(walk)-1)
	}
	walk, ok = impl.SearchWalk(line(24), 11, turns)
	wantNoList(t, "SearchWalk", walk, ok)
	for _, a := range []int{11, 12} {
		checkSearch(t, line(24), a, turns, 9)
	}
}

func TestExtras(t *testing.T) {
	for _, extra := range wrongExtras {
		for _, k := range []struct {
			size, a int
			turns   []int
		}{{2, 0, []int{1}}, {5, 2, []int{0, 4}}, {24, 23, []int{0}}} {
			times, ok := impl.SearchTimes(line(k.size), k.a, k.turns, extra)
			wantNoList(t, "SearchTimes", times, ok)
			ratio, ok := impl.SearchRatio(line(k.size), k.a, k.turns, extra)
			wantNoRatio(t, ratio, ok)
			worst, ok := impl.WorstPlace(line(k.size), k.a, k.turns, extra)
			wantNoNumber(t, "WorstPlace", worst, ok)
			best, ok := impl.BestSearch(line(min(k.size, 10)), 1, extra)
			wantNoList(t, "BestSearch", best, ok)
		}
	}
	for extra := range 10 {
		times, ok := impl.SearchTimes(line(3), 1, []int{0, 2}, extra)
		wantList(t, "SearchTimes", times, ok, []int{1, 0, 3 + extra})
		ratio, ok := impl.SearchRatio(line(3), 1, []int{0, 2}, extra)
		wantRatio(t, ratio, ok, [2]int{3 + extra, 1})
		best, ok := impl.BestSearch(line(3), 1, extra)
		wantList(t, "BestSearch", best, ok, []int{0, 2})
	}
}

func TestAllSearchesKnown(t *testing.T) {
	known := []struct {
		size, a int
		want    [][]int
	}{
		{2, 0, [][]int{{1}}}, {2, 1, [][]int{{0}}}, {3, 0, [][]int{{2}}}, {3, 1, [][]int{{0, 2}, {2, 0}}}, {10, 0, [][]int{{9}}}, {10, 9, [][]int{{0}}},
		{5, 1, [][]int{{0, 4}, {4, 0}, {2, 0, 4}, {3, 0, 4}}}, {5, 3, [][]int{{0, 4}, {4, 0}, {1, 4, 0}, {2, 4, 0}}},
		{5, 2, [][]int{{0, 4}, {4, 0}, {1, 4, 0}, {3, 0, 4}, {1, 3, 0, 4}, {3, 1, 4, 0}}},
	}
	for _, k := range known {
		all, ok := impl.AllSearches(line(k.size), k.a)
		wantSearches(t, all, ok, k.want)
	}
}

func TestAllSearches(t *testing.T) {
	for size := 2; size <= 24; size++ {
		for a := range size {
			all, ok := impl.AllSearches(line(size), a)
			if size > 10 {
				wantNoSearches(t, all, ok)
			} else {
				wantSearches(t, all, ok, orderedSearches(line(size), a))
			}
		}
	}
	all, _ := impl.AllSearches(line(10), 4)
	if len(all) != 126 {
		t.Error("searches on 10 places from 4:", len(all))
	}
}

// TestNoSearchIsBetter holds the promise that the best search has the least ratio, and is the first one that has it.
func TestNoSearchIsBetter(t *testing.T) {
	for size := 2; size <= 10; size++ {
		for a := range size {
			searches := orderedSearches(line(size), a)
			for extra := range 10 {
				best, ok := impl.BestSearch(line(size), a, extra)
				wantList(t, "BestSearch", best, ok, firstBest(line(size), a, extra, searches))
			}
		}
	}
	for size := 11; size <= 24; size++ {
		for a := range size {
			best, ok := impl.BestSearch(line(size), a, 0)
			wantNoList(t, "BestSearch", best, ok)
		}
	}
}

func firstBest(r impl.Road, a int, extra int, searches [][]int) []int {
	best, least := []int{}, [2]int{math.MaxInt32, 1}
	for _, turns := range searches {
		if _, ratio := ratioOnPath(r, a, turns, extra); ratio[0]*least[1] < least[0]*ratio[1] {
			best, least = turns, ratio
		}
	}
	return best
}

func TestBestSearchKnown(t *testing.T) {
	known := []struct {
		size, a, extra int
		want           []int
	}{
		{2, 0, 0, []int{1}}, {2, 1, 9, []int{0}}, {10, 0, 3, []int{9}}, {10, 9, 3, []int{0}}, {3, 1, 0, []int{0, 2}}, {5, 1, 0, []int{0, 4}}, {5, 2, 0, []int{1, 4, 0}}, {6, 2, 0, []int{3, 0, 5}},
		{9, 3, 1, []int{4, 0, 8}}, {9, 3, 2, []int{1, 8, 0}}, {10, 4, 1, []int{6, 0, 9}}, {10, 4, 2, []int{2, 9, 0}}, {10, 4, 9, []int{2, 9, 0}}, {10, 8, 0, []int{9, 0}},
	}
	for _, k := range known {
		best, ok := impl.BestSearch(line(k.size), k.a, k.extra)
		wantList(t, "BestSearch", best, ok, k.want)
	}
}

func TestDoublingKnown(t *testing.T) {
	known := []struct {
		size, a int
		want    []int
	}{
		{2, 0, []int{1}}, {2, 1, []int{0}}, {3, 0, []int{2}}, {3, 1, []int{2, 0}}, {3, 2, []int{0}}, {24, 0, []int{23}}, {24, 23, []int{0}},
		{9, 1, []int{2, 0, 8}}, {9, 2, []int{3, 0, 8}}, {9, 7, []int{8, 0}}, {9, 6, []int{7, 4, 8, 0}}, {9, 4, []int{5, 2, 8, 0}}, {8, 4, []int{5, 2, 7, 0}}, {9, 3, []int{4, 1, 7, 0, 8}}, {24, 22, []int{23, 0}}, {24, 1, []int{2, 0, 23}},
		{24, 12, []int{13, 10, 16, 4, 23, 0}}, {24, 11, []int{12, 9, 15, 3, 23, 0}}, {24, 8, []int{9, 6, 12, 0, 23}}, {24, 7, []int{8, 5, 11, 0, 23}}, {24, 9, []int{10, 7, 13, 1, 23, 0}}, {24, 19, []int{20, 17, 23, 0}}, {24, 20, []int{21, 18, 23, 0}}, {24, 3, []int{4, 1, 7, 0, 23}},
	}
	for _, k := range known {
		turns, ok := impl.DoublingSearch(line(k.size), k.a)
		wantList(t, "DoublingSearch", turns, ok, k.want)
	}
}

// doublingByWords goes to one side and the other one, each time twice as far, until there is an end.
func doublingByWords(size int, a int) []int {
	turns, at, gap, greater := []int{}, a, 1, true
	for at != 0 && at != size-1 {
		if greater {
			at = min(a+gap, size-1)
		} else {
			at = max(a-gap, 0)
		}
		turns = append(turns, at)
		gap, greater = 2*gap, !greater
	}
	if at == 0 {
		return append(turns, size-1)
	}
	return append(turns, 0)
}

// TestDoublingIsWithinNine holds the promise that the ratio of a doubling search is at most 9.
func TestDoublingIsWithinNine(t *testing.T) {
	for size := 2; size <= 24; size++ {
		for a := range size {
			turns, ok := impl.DoublingSearch(line(size), a)
			wantList(t, "DoublingSearch", turns, ok, doublingByWords(size, a))
			is, isOk := impl.IsSearch(line(size), a, turns)
			ratio, ok := impl.SearchRatio(line(size), a, turns, 0)
			if !is || !isOk || !ok || ratio[0] > 9*ratio[1] {
				t.Errorf("DoublingSearch(%d places, %d) = %v: ratio %v, %v", size, a, turns, ratio, ok)
			}
		}
	}
}

func TestSearchLoad(t *testing.T) {
	for size := 2; size <= 8; size++ {
		for a := range size {
			for turns := range everySearch(line(size), a) {
				for _, hefts := range someHefts(line(size)) {
					load, ok := impl.SearchLoad(line(size), a, turns, hefts)
					wantNumber(t, "SearchLoad", load, ok, loadOnPath(line(size), a, turns, hefts))
				}
			}
		}
	}
	load, ok := impl.SearchLoad(line(3), 1, []int{0, 2}, []int{99, 99, 0})
	wantNumber(t, "SearchLoad", load, ok, 99)
	load, ok = impl.SearchLoad(line(3), 1, []int{2, 0}, []int{99, 0, 99})
	wantNumber(t, "SearchLoad", load, ok, 4*99)
	load, ok = impl.SearchLoad(line(2), 0, []int{1}, []int{99, 0})
	wantNumber(t, "SearchLoad", load, ok, 0)
	long := []int{13, 11, 14, 10, 15, 9, 16, 8, 17, 7, 18, 6, 19, 5, 20, 4, 21, 3, 22, 2, 23, 0}
	load, ok = impl.SearchLoad(line(24), 12, long, slices.Repeat([]int{99}, 24))
	wantNumber(t, "SearchLoad", load, ok, loadOnPath(line(24), 12, long, slices.Repeat([]int{99}, 24)))
}

// leastByTrying returns the least load of all searches that go on from a place, in every way.
func leastByTrying(r impl.Road, low int, high int, at int, time int, load int, hefts []int, least int) int {
	if low == 0 && high == r.Size-1 {
		return min(least, load)
	}
	if low > 0 {
		then := time + at - low + 1
		least = leastByTrying(r, low-1, high, low-1, then, load+then*hefts[low-1], hefts, least)
	}
	if high < r.Size-1 {
		then := time + high + 1 - at
		least = leastByTrying(r, low, high+1, high+1, then, load+then*hefts[high+1], hefts, least)
	}
	return least
}

// TestNoSearchHasLessLoad tries all searches on lines of up to 12 places, and then on longer lines for some hefts.
func TestNoSearchHasLessLoad(t *testing.T) {
	for size := 2; size <= 12; size++ {
		for a := range size {
			for _, hefts := range someHefts(line(size)) {
				checkLeast(t, size, a, hefts)
			}
		}
	}
	for size := 13; size <= 24; size++ {
		hefts := someHefts(line(size))
		for a := range size {
			checkLeast(t, size, a, hefts[3+a%6])
		}
	}
}

func checkLeast(t *testing.T, size int, a int, hefts []int) {
	t.Helper()
	least, ok := impl.LeastLoad(line(size), a, hefts)
	wantNumber(t, "LeastLoad", least, ok, leastByTrying(line(size), a, a, a, 0, 0, hefts, math.MaxInt))
}

// TestGuaranteesOfSearches takes the functions together, without walking.
func TestGuaranteesOfSearches(t *testing.T) {
	for size := 2; size <= 10; size++ {
		r := line(size)
		for a := range size {
			all, _ := impl.AllSearches(r, a)
			for i, turns := range all {
				hefts := someHefts(r)[i%9]
				least, _ := impl.LeastLoad(r, a, hefts)
				if load, ok := impl.SearchLoad(r, a, turns, hefts); !ok || load < least {
					t.Errorf("load of %v from %d: %d, least %d", turns, a, load, least)
				}
				checkGuarantees(t, r, a, turns)
			}
		}
	}
	for size := 3; size <= 24; size++ {
		for a := 1; a < size-1; a++ {
			for _, hefts := range someHefts(line(size)) {
				least, _ := impl.LeastLoad(line(size), a, hefts)
				one, ok := impl.SearchLoad(line(size), a, []int{0, size - 1}, hefts)
				other, both := impl.SearchLoad(line(size), a, []int{size - 1, 0}, hefts)
				if !ok || !both || min(one, other) < least {
					t.Errorf("from %d of %d: %d and %d, least %d", a, size, one, other, least)
				}
			}
		}
	}
}

// checkGuarantees holds a search against the best one, against the gaps and against the search that is turned.
func checkGuarantees(t *testing.T, r impl.Road, a int, turns []int) {
	t.Helper()
	for _, extra := range someExtras {
		best, _ := impl.BestSearch(r, a, extra)
		least, _ := impl.SearchRatio(r, a, best, extra)
		ratio, _ := impl.SearchRatio(r, a, turns, extra)
		if ratio[0]*least[1] < least[0]*ratio[1] {
			t.Errorf("ratio of %v from %d: %v, best %v", turns, a, ratio, least)
		}
		times, _ := impl.SearchTimes(r, a, turns, extra)
		mirrored, _ := impl.MirrorSearch(r, turns)
		other, ok := impl.SearchTimes(r, r.Size-1-a, mirrored, extra)
		slices.Reverse(other)
		wantList(t, "SearchTimes of the mirrored", other, ok, times)
		for p, time := range times {
			if gap, _ := impl.GapOf(r, a, p); time < gap {
				t.Errorf("time %d of %d from %d", time, p, a)
			}
		}
	}
}

func TestHefts(t *testing.T) {
	right := []int{0, 99, 5}
	load, ok := impl.SearchLoad(line(3), 1, []int{0, 2}, right)
	wantNumber(t, "SearchLoad", load, ok, 15)
	least, ok := impl.LeastLoad(line(3), 1, right)
	wantNumber(t, "LeastLoad", least, ok, 5)
	wrong := [][]int{nil, {}, {1}, {1, 2}, {1, 2, 3, 4}, {0, 0, 0, 0}, make([]int, 1000)}
	for p := range 3 {
		for _, heft := range []int{-1, 100, -99, math.MaxInt, math.MinInt} {
			hefts := slices.Clone(right)
			hefts[p] = heft
			wrong = append(wrong, hefts)
		}
	}
	for _, hefts := range wrong {
		load, ok := impl.SearchLoad(line(3), 1, []int{0, 2}, hefts)
		wantNoNumber(t, "SearchLoad", load, ok)
		for a := range 3 {
			least, ok := impl.LeastLoad(line(3), a, hefts)
			wantNoNumber(t, "LeastLoad", least, ok)
		}
	}
	for _, turns := range [][]int{nil, {0}, {0, 1, 2}, {2, 0, 2}, {0, 3}} {
		load, ok := impl.SearchLoad(line(3), 1, turns, right)
		wantNoNumber(t, "SearchLoad", load, ok)
	}
	least, ok = impl.LeastLoad(line(2), 0, []int{99, 99})
	wantNumber(t, "LeastLoad", least, ok, 99)
	least, ok = impl.LeastLoad(line(24), 23, slices.Repeat([]int{99}, 24))
	wantNumber(t, "LeastLoad", least, ok, 99*23*24/2)
}

func TestMirrorSearch(t *testing.T) {
	known := []struct {
		size        int
		turns, want []int
	}{
		{5, nil, nil}, {2, []int{}, []int{}}, {2, []int{1, 0}, []int{0, 1}}, {5, []int{0, 4}, []int{4, 0}}, {5, []int{2, 2, 3, 3}, []int{2, 2, 1, 1}}, {24, []int{0, 11, 12, 23, 5}, []int{23, 12, 11, 0, 18}},
	}
	for _, k := range known {
		mirrored, ok := impl.MirrorSearch(line(k.size), k.turns)
		wantList(t, "MirrorSearch", mirrored, ok, k.want)
	}
	long := slices.Repeat([]int{0, 1, 4}, 1000)
	mirrored, ok := impl.MirrorSearch(line(5), long)
	wantList(t, "MirrorSearch", mirrored, ok, slices.Repeat([]int{4, 3, 0}, 1000))
	for size := 2; size <= 24; size++ {
		for _, p := range wrongPlaces(line(size)) {
			for _, turns := range [][]int{{p}, {0, p}, {p, 1}, {1, 0, p, 1}} {
				mirrored, ok := impl.MirrorSearch(line(size), turns)
				if p >= 0 && p < size {
					continue
				}
				wantNoList(t, "MirrorSearch", mirrored, ok)
			}
		}
	}
}

// TestSearchesOfOtherRoads takes rings, Roads that are not valid, and places that are not on the line.
func TestSearchesOfOtherRoads(t *testing.T) {
	roads := slices.Clone(wrongRoads)
	for size := 3; size <= 24; size++ {
		roads = append(roads, ring(size))
	}
	for _, r := range roads {
		for _, a := range []int{0, 1, -1} {
			checkNoStart(t, r, a)
		}
		for _, turns := range [][]int{nil, {0}, {0, 1}} {
			mirrored, ok := impl.MirrorSearch(r, turns)
			wantNoList(t, "MirrorSearch", mirrored, ok)
		}
	}
	for _, size := range []int{2, 3, 5, 10, 11, 24} {
		for _, a := range wrongPlaces(line(size)) {
			if a < 0 || a >= size {
				checkNoStart(t, line(size), a)
			}
		}
	}
}

// checkNoStart holds that nothing is a search from a.
func checkNoStart(t *testing.T, r impl.Road, a int) {
	t.Helper()
	last := r.Size - 1
	for _, turns := range [][]int{nil, {0}, {1}, {last}, {0, last}, {last, 0}, {2, 0, last}} {
		if is, ok := impl.IsSearch(r, a, turns); ok || is {
			t.Errorf("IsSearch(%v, %d, %v) = %v, %v", r, a, turns, is, ok)
		}
		checkNoSearch(t, r, a, turns)
	}
	all, ok := impl.AllSearches(r, a)
	wantNoSearches(t, all, ok)
	best, ok := impl.BestSearch(r, a, 0)
	wantNoList(t, "BestSearch", best, ok)
	double, ok := impl.DoublingSearch(r, a)
	wantNoList(t, "DoublingSearch", double, ok)
	load, ok := impl.LeastLoad(r, a, make([]int, max(0, min(r.Size, 30))))
	wantNoNumber(t, "LeastLoad", load, ok)
}

// TestSearchesAreKeptApart changes results and looks whether arguments or later results have changed with them.
func TestSearchesAreKeptApart(t *testing.T) {
	r := line(6)
	long := []int{77, 3, 1, 5, 0, 88, 7, 1, 2, 3, 4, 5, 99}
	turns, hefts := long[1:5], long[6:12]
	before := slices.Clone(long)
	calls := map[string]func() ([]int, bool){
		"SearchWalk":     func() ([]int, bool) { return impl.SearchWalk(r, 2, turns) },
		"SearchTimes":    func() ([]int, bool) { return impl.SearchTimes(r, 2, turns, 3) },
		"BestSearch":     func() ([]int, bool) { return impl.BestSearch(r, 2, 3) },
		"DoublingSearch": func() ([]int, bool) { return impl.DoublingSearch(r, 2) },
		"MirrorSearch":   func() ([]int, bool) { return impl.MirrorSearch(r, turns) },
	}
	for name, call := range calls {
		one, ok := call()
		want := slices.Clone(one)
		spoil(one)
		two, again := call()
		if !ok || !again || !slices.Equal(two, want) || !slices.Equal(long, before) {
			t.Errorf("%s: %v, then %v, of %v", name, want, two, long)
		}
	}
	impl.IsSearch(r, 2, turns)
	impl.SearchRatio(r, 2, turns, 1)
	impl.WorstPlace(r, 2, turns, 1)
	impl.SearchLoad(r, 2, turns, hefts)
	impl.LeastLoad(r, 2, hefts)
	impl.TurnCount(r, 2, turns)
	if !slices.Equal(long, before) {
		t.Error("arguments have changed:", long)
	}
	checkAllApart(t)
}

// spoil changes all numbers of a list and those that fit in behind it.
func spoil(list []int) {
	for i := range list[:cap(list)] {
		list[:cap(list)][i] = -9
	}
}

func checkAllApart(t *testing.T) {
	t.Helper()
	want := orderedSearches(line(7), 3)
	all, _ := impl.AllSearches(line(7), 3)
	for i := range all {
		_ = append(all[i], -7, -7, -7)
		wantSearches(t, all, true, want)
	}
	for i := range all {
		spoil(all[i])
		all[i] = want[i]
		wantSearches(t, all, true, want)
	}
}
