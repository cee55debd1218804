package tests

import (
	"math"
	"reflect"
	"slices"
	"testing"

	"loop.example/g01148/impl"
)

// isRoundByWords tells whether a list is a round on a valid road, by the document's words.
func isRoundByWords(r impl.Road, round []int) bool {
	for t, p := range round {
		before := round[(t+len(round)-1)%len(round)]
		if p < 0 || p >= r.Size || p != before && !besides(r, p, before) {
			return false
		}
	}
	return len(round) >= 1 && len(round) <= 60
}

// isPatrolByWords tells whether lists are a patrol on a valid road.
func isPatrolByWords(r impl.Road, rounds [][]int) bool {
	for _, round := range rounds {
		if !isRoundByWords(r, round) || len(round) != len(rounds[0]) {
			return false
		}
	}
	return len(rounds) >= 1 && len(rounds) <= 6
}

// roundsOf returns all rounds of n places on a road.
func roundsOf(r impl.Road, n int) [][]int {
	rounds := [][]int{}
	for p := range r.Size {
		for w := range walksFrom(r, p, n) {
			if isRoundByWords(r, w) {
				rounds = append(rounds, w)
			}
		}
	}
	return rounds
}

// thereAndBack returns the round that goes a walk, and the same way back.
func thereAndBack(w []int) []int {
	back := slices.Clone(w)
	slices.Reverse(back)
	return append(slices.Clone(w), back...)
}

// somePatrols returns patrols of 1..6 guards with short and long periods on a road.
func somePatrols(r impl.Road) [][][]int {
	patrols := [][][]int{}
	for k := 1; k <= 6; k++ {
		for _, n := range []int{1, 2, 5, 12, 30} {
			rounds := [][]int{}
			for i := range k {
				rounds = append(rounds, thereAndBack(longWalk(r, (3*i+n)%r.Size, n, i+k)))
			}
			patrols = append(patrols, rounds)
		}
		patrols = append(patrols, slices.Repeat([][]int{{r.Size - 1}}, k))
	}
	return patrols
}

// checkPatrols calls check for all patrols of one guard and of two on small roads, and for some patrols on all roads.
func checkPatrols(t *testing.T, check func(*testing.T, impl.Road, [][]int)) {
	t.Helper()
	for _, r := range allRoads(4) {
		for n := 1; n <= 6; n++ {
			rounds := roundsOf(r, n)
			for i, one := range rounds {
				check(t, r, [][]int{one})
				for _, two := range rounds[:i+1] {
					if n <= 4 {
						check(t, r, [][]int{one, two})
					}
				}
			}
		}
	}
	for _, r := range allRoads(24) {
		for _, rounds := range somePatrols(r) {
			check(t, r, rounds)
		}
	}
}

// isVisited tells whether a guard is at a place at a time, when all go on for ever.
func isVisited(rounds [][]int, p int, time int) bool {
	return slices.ContainsFunc(rounds, func(round []int) bool { return round[time%len(round)] == p })
}

// visitsByGoing returns the times of the first period at which a guard is at a place.
func visitsByGoing(rounds [][]int, p int) []int {
	visits := []int{}
	for time := range len(rounds[0]) {
		if isVisited(rounds, p, time) {
			visits = append(visits, time)
		}
	}
	return visits
}

// idleByGoing returns the idle time of a place by going on until all has come again.
func idleByGoing(rounds [][]int, p int) int {
	idle, last := -1, -1
	for time := range 3 * len(rounds[0]) {
		if isVisited(rounds, p, time) {
			if last >= 0 {
				idle = max(idle, time-last)
			}
			last = time
		}
	}
	return idle
}

// idleOfAll returns the idle times of all places of a road, and the pause, -1 if a place is never visited.
func idleOfAll(r impl.Road, rounds [][]int) ([]int, int) {
	idle := []int{}
	for p := range r.Size {
		idle = append(idle, idleByGoing(rounds, p))
	}
	if slices.Contains(idle, -1) {
		return idle, -1
	}
	return idle, slices.Max(idle)
}

// guardedByWords returns where the guards of the ring patrol, or of the part patrol on a line, are at each time; none if there is no such patrol.
func guardedByWords(r impl.Road, k int) [][]int {
	rounds := [][]int{}
	first := 0
	for i := range k {
		round := []int{}
		switch {
		case r.Ring:
			for time := range r.Size {
				round = append(round, (i*r.Size/k+time)%r.Size)
			}
		case k <= r.Size:
			longest := (r.Size + k - 1) / k
			part := r.Size / k
			if i < r.Size-k*part {
				part++
			}
			round = goToAndFro(first, part, longest)
			first += part
		default:
			return [][]int{}
		}
		rounds = append(rounds, round)
	}
	return rounds
}

// goToAndFro returns how the guard of a part with so many places goes, if the longest part has so many.
func goToAndFro(first int, part int, longest int) []int {
	if longest == 1 {
		return []int{first}
	}
	round, period := []int{}, 2*longest-2
	for time := range period {
		if part == longest {
			round = append(round, first+min(time, period-time))
		} else {
			round = append(round, first+min(time, period-1-time))
		}
	}
	return round
}

// wrongPatrols returns lists that are no patrols on a road.
func wrongPatrols(r impl.Road) [][][]int {
	patrols := [][][]int{
		nil, {}, {{}}, {nil}, {{}, {}}, {{0}, {}}, {{}, {0}}, {{0}, {0, 0}}, {{0, 0}, {0}}, {{0, 1}, {0, 1}, {0}}, {{0}, {1}, {0, 1}}, {{0, 1}, {0, 1}, {1, 0}, {0, 1}, {0, 1}, {0, 1, 1}},
		slices.Repeat([][]int{{0}}, 7), slices.Repeat([][]int{{0, 1}}, 7), slices.Repeat([][]int{{0}}, 100000),
		{make([]int, 61)}, {slices.Repeat([]int{0, 1}, 31)}, {make([]int, 60), make([]int, 61)}, {make([]int, 61), make([]int, 61)}, {make([]int, 100000)},
	}
	for _, p := range wrongPlaces(r) {
		if p < 0 || p >= r.Size {
			patrols = append(patrols, [][]int{{p}}, [][]int{{p, p}}, [][]int{{0, p}}, [][]int{{p, 0}}, [][]int{{0, p, 0}}, [][]int{{0}, {p}}, [][]int{{0, 1}, {0, 0}, {1, p}})
		}
	}
	for p := range r.Size {
		for q := range r.Size {
			if p != q && !besides(r, p, q) {
				patrols = append(patrols, [][]int{{p, q}}, [][]int{{p, p, q}}, [][]int{{p, q, q}}, [][]int{{p, p}, {q, p}})
			}
		}
		if p+2 < r.Size && r.Size > 3 {
			patrols = append(patrols, [][]int{{p, p + 1, p + 2}}, [][]int{{p + 2, p + 1, p}}, [][]int{{p, p, p}, {p, p + 1, p + 2}})
		}
	}
	return patrols
}

func wantRounds(t *testing.T, what string, got [][]int, ok bool, want [][]int) {
	t.Helper()
	if !ok || !slices.EqualFunc(got, want, slices.Equal[[]int]) {
		t.Errorf("%s = %v, %v; want %v, true", what, got, ok, want)
	}
}

func wantNoRounds(t *testing.T, what string, got [][]int, ok bool) {
	t.Helper()
	if ok || len(got) != 0 {
		t.Errorf("%s = %v, %v; want none, false", what, got, ok)
	}
}

// wantPause holds a pause against what it is, -1 if there is none.
func wantPause(t *testing.T, r impl.Road, rounds [][]int, want int) {
	t.Helper()
	pause, ok := impl.PauseOf(r, rounds)
	if ok != (want >= 0) || pause != max(0, want) {
		t.Errorf("PauseOf(%v, %v) = %d, %v; want %d", r, rounds, pause, ok, want)
	}
}

func wantIsPatrol(t *testing.T, r impl.Road, rounds [][]int, want bool, fine bool) {
	t.Helper()
	if is, ok := impl.IsPatrol(r, rounds); is != want || ok != fine {
		t.Errorf("IsPatrol(%v, %.100v) = %v, %v; want %v, %v", r, rounds, is, ok, want, fine)
	}
}

func TestLimitsOfPatrols(t *testing.T) {
	if impl.MaxGuards != 6 {
		t.Error("limit", impl.MaxGuards)
	}
}

func TestIsPatrolKnown(t *testing.T) {
	known := []struct {
		road   impl.Road
		rounds [][]int
		want   bool
	}{
		{line(5), [][]int{{0}}, true}, {line(5), [][]int{{4}}, true}, {line(5), [][]int{{5}}, false}, {line(5), [][]int{{-1}}, false}, {line(5), nil, false}, {line(5), [][]int{{}}, false}, {line(5), [][]int{nil}, false},
		{line(5), [][]int{{0, 1}}, true}, {line(5), [][]int{{0, 0}}, true}, {line(5), [][]int{{0, 2}}, false}, {line(5), [][]int{{0, 1, 2}}, false}, {line(5), [][]int{{0, 1, 1}}, true}, {line(5), [][]int{{0, 1, 2, 1}}, true},
		{line(5), [][]int{{0, 1, 2, 3, 4}}, false}, {ring(5), [][]int{{0, 1, 2, 3, 4}}, true}, {ring(5), [][]int{{0, 4}}, true}, {line(5), [][]int{{0, 4}}, false}, {ring(5), [][]int{{1, 2, 3, 4}}, false}, {ring(3), [][]int{{0, 1, 2}}, true}, {line(3), [][]int{{0, 1, 2}}, false},
		{line(5), [][]int{{0}, {0, 1}}, false}, {line(5), [][]int{{0, 0}, {0, 1}}, true}, {line(5), [][]int{{0, 1}, {}}, false}, {line(5), [][]int{{}, {0}}, false}, {line(2), [][]int{{0, 1}, {0, 1}, {1, 0}, {1, 1}, {0, 0}, {0, 1}}, true},
		{line(24), slices.Repeat([][]int{{23}}, 6), true}, {line(24), slices.Repeat([][]int{{23}}, 7), false}, {line(24), [][]int{make([]int, 60)}, true}, {line(24), [][]int{make([]int, 61)}, false},
		{line(24), [][]int{slices.Repeat([]int{22, 23}, 30)}, true}, {ring(24), slices.Repeat([][]int{slices.Repeat([]int{0, 23}, 30)}, 6), true},
	}
	for _, k := range known {
		wantIsPatrol(t, k.road, k.rounds, k.want, true)
	}
}

// TestIsPatrolOfAllShortLists takes all lists of at most 4 numbers, as one round and beside another one.
func TestIsPatrolOfAllShortLists(t *testing.T) {
	for _, r := range allRoads(4) {
		lists := [][]int{{}}
		for i := 0; i < len(lists); i++ {
			for p := -1; p <= r.Size && len(lists[i]) < 4; p++ {
				lists = append(lists, append(slices.Clone(lists[i]), p))
			}
			for _, rounds := range [][][]int{{lists[i]}, {{0, 1, 1}, lists[i]}, {lists[i], lists[i/2]}, {lists[i], lists[i], {1, 1}}} {
				wantIsPatrol(t, r, rounds, isPatrolByWords(r, rounds), true)
			}
		}
	}
}

func TestIsPatrolOfLimits(t *testing.T) {
	for _, r := range allRoads(24) {
		for n := 0; n <= 130; n++ {
			wantIsPatrol(t, r, [][]int{slices.Repeat([]int{r.Size - 1}, n)}, n >= 1 && n <= 60, true)
			wantIsPatrol(t, r, slices.Repeat([][]int{{0, 1}}, n), n >= 1 && n <= 6, true)
		}
	}
	for _, r := range wrongRoads {
		for _, rounds := range [][][]int{nil, {}, {{}}, {{0}}, {{0, 1}}, {{0, 0}, {1, 0}}, {{-1}}} {
			wantIsPatrol(t, r, rounds, false, false)
		}
	}
}

// TestPatrolsStepByStep holds the visits, the idle times and the pause against going with the guards.
func TestPatrolsStepByStep(t *testing.T) {
	checkPatrols(t, func(t *testing.T, r impl.Road, rounds [][]int) {
		wantIsPatrol(t, r, rounds, true, true)
		for p := range r.Size {
			visits, ok := impl.VisitTimes(r, rounds, p)
			wantList(t, "VisitTimes", visits, ok, visitsByGoing(rounds, p))
		}
		want, pause := idleOfAll(r, rounds)
		idle, ok := impl.IdleTimes(r, rounds)
		wantList(t, "IdleTimes", idle, ok, want)
		wantPause(t, r, rounds, pause)
	})
}

func TestVisitsAndIdleTimesKnown(t *testing.T) {
	known := []struct {
		name   string
		road   impl.Road
		rounds [][]int
		place  int
		visits []int
		idle   []int
		pause  int
	}{
		{"stays", line(3), [][]int{{1}}, 1, []int{0}, []int{-1, 1, -1}, -1}, {"never visited", line(3), [][]int{{1}}, 0, []int{}, []int{-1, 1, -1}, -1},
		{"place 0 is not visited by guards that there are not", line(3), [][]int{{2, 1}}, 0, []int{}, []int{-1, 2, 2}, -1}, {"stays long", line(2), [][]int{{0, 0, 0}}, 0, []int{0, 1, 2}, []int{1, -1}, -1},
		{"at the same place all the time", line(2), [][]int{{0, 1}, {0, 1}}, 0, []int{0}, []int{2, 2}, 2}, {"one place for two", line(3), [][]int{{2}, {2}}, 2, []int{0}, []int{-1, -1, 1}, -1},
		{"one stays, one goes", line(3), [][]int{{0, 0, 0, 0}, {0, 1, 2, 1}}, 0, []int{0, 1, 2, 3}, []int{1, 2, 4}, 4}, {"one stays in the middle", line(3), [][]int{{1, 1, 1, 1}, {0, 1, 2, 1}}, 2, []int{2}, []int{4, 1, 4}, 4},
		{"at the last time only", line(3), [][]int{{0, 0, 0, 1}}, 1, []int{3}, []int{2, 4, -1}, -1}, {"at the first time only", line(3), [][]int{{1, 0, 0, 0}}, 1, []int{0}, []int{2, 4, -1}, -1},
		{"round the end of the period", line(2), [][]int{{1, 1, 0, 1, 1, 1}}, 0, []int{2}, []int{6, 2}, 6}, {"the longest goes round", line(2), [][]int{{0, 1, 1, 0, 0, 0, 1, 1}}, 1, []int{1, 2, 6, 7}, []int{3, 4}, 4},
		{"the longest goes round from the last time", line(2), [][]int{{0, 0, 0, 1, 0, 1}}, 1, []int{3, 5}, []int{2, 4}, 4}, {"the longest is within", line(2), [][]int{{1, 0, 0, 0, 0, 1}}, 1, []int{0, 5}, []int{3, 5}, 5},
		{"each at its own place", line(3), [][]int{{0}, {1}, {2}}, 1, []int{0}, []int{1, 1, 1}, 1}, {"a ring", ring(3), [][]int{{0, 1, 2}}, 2, []int{2}, []int{3, 3, 3}, 3}, {"both ways round", ring(4), [][]int{{0, 1, 2, 3}, {0, 3, 2, 1}}, 1, []int{1, 3}, []int{4, 2, 4, 2}, 4},
		{"one of six comes there", line(4), [][]int{{0}, {0}, {1}, {1}, {2}, {3}}, 3, []int{0}, []int{1, 1, 1, 1}, 1}, {"one of six never comes", line(4), [][]int{{0}, {0}, {1}, {1}, {2}, {2}}, 3, []int{}, []int{1, 1, 1, -1}, -1},
		{"the greatest idle time", line(2), [][]int{append(make([]int, 59), 1)}, 1, []int{59}, []int{2, 60}, 60},
	}
	for _, k := range known {
		visits, ok := impl.VisitTimes(k.road, k.rounds, k.place)
		wantList(t, "VisitTimes: "+k.name, visits, ok, k.visits)
		idle, ok := impl.IdleTimes(k.road, k.rounds)
		wantList(t, "IdleTimes: "+k.name, idle, ok, k.idle)
		wantPause(t, k.road, k.rounds, k.pause)
	}
}

func TestVisitTimesOfOtherPlaces(t *testing.T) {
	for _, r := range allRoads(24) {
		for _, rounds := range [][][]int{{{0}}, {{r.Size - 1, r.Size - 2}}, {{0, 0}, {1, 0}, {1, 1}}} {
			for _, p := range wrongPlaces(r) {
				if p < 0 || p >= r.Size {
					visits, ok := impl.VisitTimes(r, rounds, p)
					wantNoList(t, "VisitTimes", visits, ok)
				}
			}
		}
	}
}

func TestRingPatrolKnown(t *testing.T) {
	known := []struct {
		size, k int
		want    [][]int
	}{
		{5, 1, [][]int{{0, 1, 2, 3, 4}}}, {5, 2, [][]int{{0, 1, 2, 3, 4}, {2, 3, 4, 0, 1}}}, {4, 2, [][]int{{0, 1, 2, 3}, {2, 3, 0, 1}}}, {3, 3, [][]int{{0, 1, 2}, {1, 2, 0}, {2, 0, 1}}},
		{3, 6, [][]int{{0, 1, 2}, {0, 1, 2}, {1, 2, 0}, {1, 2, 0}, {2, 0, 1}, {2, 0, 1}}}, {3, 4, [][]int{{0, 1, 2}, {0, 1, 2}, {1, 2, 0}, {2, 0, 1}}},
	}
	for _, k := range known {
		rounds, ok := impl.RingPatrol(ring(k.size), k.k)
		wantRounds(t, "RingPatrol", rounds, ok, k.want)
	}
}

func TestPartPatrolKnown(t *testing.T) {
	known := []struct {
		size, k int
		want    [][]int
	}{
		{2, 1, [][]int{{0, 1}}}, {2, 2, [][]int{{0}, {1}}}, {3, 1, [][]int{{0, 1, 2, 1}}}, {3, 2, [][]int{{0, 1}, {2, 2}}}, {3, 3, [][]int{{0}, {1}, {2}}}, {4, 2, [][]int{{0, 1}, {2, 3}}}, {4, 3, [][]int{{0, 1}, {2, 2}, {3, 3}}},
		{5, 2, [][]int{{0, 1, 2, 1}, {3, 4, 4, 3}}}, {7, 2, [][]int{{0, 1, 2, 3, 2, 1}, {4, 5, 6, 6, 5, 4}}}, {8, 3, [][]int{{0, 1, 2, 1}, {3, 4, 5, 4}, {6, 7, 7, 6}}}, {7, 3, [][]int{{0, 1, 2, 1}, {3, 4, 4, 3}, {5, 6, 6, 5}}},
		{6, 6, [][]int{{0}, {1}, {2}, {3}, {4}, {5}}}, {7, 6, [][]int{{0, 1}, {2, 2}, {3, 3}, {4, 4}, {5, 5}, {6, 6}}}, {9, 2, [][]int{{0, 1, 2, 3, 4, 3, 2, 1}, {5, 6, 7, 8, 8, 7, 6, 5}}},
	}
	for _, k := range known {
		rounds, ok := impl.PartPatrol(line(k.size), k.k)
		wantRounds(t, "PartPatrol", rounds, ok, k.want)
	}
}

// TestMadePatrols takes the patrols of all numbers of guards on all roads.
func TestMadePatrols(t *testing.T) {
	for _, r := range allRoads(24) {
		for k := 1; k <= 6; k++ {
			want := guardedByWords(r, k)
			around, isRing := impl.RingPatrol(r, k)
			parts, isLine := impl.PartPatrol(r, k)
			if r.Ring {
				wantRounds(t, "RingPatrol", around, isRing, want)
				wantNoRounds(t, "PartPatrol on a ring", parts, isLine)
				wantIsPatrol(t, r, around, true, true)
				continue
			}
			wantNoRounds(t, "RingPatrol on a line", around, isRing)
			if k > r.Size {
				wantNoRounds(t, "PartPatrol of too many", parts, isLine)
				continue
			}
			wantRounds(t, "PartPatrol", parts, isLine, want)
			wantIsPatrol(t, r, parts, true, true)
		}
		for _, k := range wrongGuards {
			checkNoGuards(t, r, k)
		}
	}
	for _, r := range wrongRoads {
		for k := -1; k <= 7; k++ {
			checkNoGuards(t, r, k)
		}
	}
}

var wrongGuards = []int{0, -1, -2, -6, 7, 8, 24, 1000, math.MaxInt, math.MaxInt - 1, math.MinInt, math.MinInt + 1}

func checkNoGuards(t *testing.T, r impl.Road, k int) {
	t.Helper()
	rounds, ok := impl.RingPatrol(r, k)
	wantNoRounds(t, "RingPatrol", rounds, ok)
	rounds, ok = impl.PartPatrol(r, k)
	wantNoRounds(t, "PartPatrol", rounds, ok)
	bound, ok := impl.PauseBound(r, k)
	wantNoNumber(t, "PauseBound", bound, ok)
}

// TestPausesOfMadePatrols holds the guarantee on the pauses of ring patrols and of part patrols.
func TestPausesOfMadePatrols(t *testing.T) {
	for _, r := range allRoads(24) {
		for k := 1; k <= 6; k++ {
			if r.Ring {
				rounds, _ := impl.RingPatrol(r, k)
				bound, _ := impl.PauseBound(r, k)
				wantPause(t, r, rounds, bound)
				continue
			}
			want, longest := -1, (r.Size+k-1)/k
			switch {
			case k == r.Size:
				want = 1
			case k < r.Size:
				want = 2*longest - 2
			}
			rounds, _ := impl.PartPatrol(r, k)
			wantPause(t, r, rounds, want)
		}
	}
}

func TestPauseBoundKnown(t *testing.T) {
	known := []struct {
		road    impl.Road
		k, want int
	}{
		{line(5), 1, 8}, {ring(5), 1, 5}, {line(2), 1, 2}, {line(24), 1, 46}, {ring(24), 1, 24}, {ring(3), 1, 3}, {line(5), 2, 3}, {ring(5), 2, 3}, {line(6), 2, 3}, {ring(6), 2, 3}, {ring(6), 3, 2},
		{line(2), 2, 1}, {line(2), 3, 1}, {line(2), 6, 1}, {ring(3), 6, 1}, {ring(5), 6, 1}, {line(6), 6, 1}, {line(7), 6, 2}, {ring(24), 6, 4}, {ring(24), 5, 5}, {line(24), 5, 5}, {ring(23), 6, 4},
	}
	for _, k := range known {
		bound, ok := impl.PauseBound(k.road, k.k)
		wantNumber(t, "PauseBound", bound, ok, k.want)
	}
}

func TestPauseBoundOfAll(t *testing.T) {
	for _, r := range allRoads(24) {
		for k := 1; k <= 6; k++ {
			// The least number of times in which k guards could be at so many places.
			want := 1
			for k*want < r.Size {
				want++
			}
			if k == 1 && !r.Ring {
				want = len(thereAndBack(make([]int, r.Size))) - 2
			}
			bound, ok := impl.PauseBound(r, k)
			wantNumber(t, "PauseBound", bound, ok, want)
		}
	}
}

// smallPatrols yields all patrols, with their guards in one order, of 1, 2 and 3 guards on a road with periods of at most longest[0], longest[1] and longest[2].
func smallPatrols(r impl.Road, longest [3]int) func(func([][]int) bool) {
	return func(yield func([][]int) bool) {
		for n := 1; n <= longest[0]; n++ {
			guards := 0
			for guards < 3 && n <= longest[guards] {
				guards++
			}
			if !addGuards(roundsOf(r, n), nil, guards, yield) {
				return
			}
		}
	}
}

// addGuards yields the patrol with each of the rounds added, and with more of them, as long as there are at most so many guards.
func addGuards(rounds [][]int, patrol [][]int, guards int, yield func([][]int) bool) bool {
	if len(patrol) == guards {
		return true
	}
	for i, round := range rounds {
		longer := append(slices.Clone(patrol), round)
		if !yield(longer) || !addGuards(rounds[:i+1], longer, guards, yield) {
			return false
		}
	}
	return true
}

// TestNoPatrolIsBelowTheBound holds the promise of all patrols with short periods, and of some longer ones.
func TestNoPatrolIsBelowTheBound(t *testing.T) {
	for r, longest := range map[impl.Road][3]int{
		line(2): {9, 6, 3}, line(3): {8, 5, 3}, ring(3): {7, 5, 3}, line(4): {7, 5, 3}, ring(4): {6, 4, 3}, line(5): {8, 4, 3}, ring(5): {6, 4, 2},
	} {
		least := [4]int{0, math.MaxInt, math.MaxInt, math.MaxInt}
		for rounds := range smallPatrols(r, longest) {
			if pause, ok := checkBound(t, r, rounds); ok {
				least[len(rounds)] = min(least[len(rounds)], pause)
			}
		}
		checkLeastPauses(t, r, least)
	}
	checkPatrols(t, func(t *testing.T, r impl.Road, rounds [][]int) { checkBound(t, r, rounds) })
}

// checkBound holds that a patrol has no less pause than the bound, and returns the pause.
func checkBound(t *testing.T, r impl.Road, rounds [][]int) (int, bool) {
	t.Helper()
	bound, fine := impl.PauseBound(r, len(rounds))
	pause, ok := impl.PauseOf(r, rounds)
	if !fine || ok && pause < bound {
		t.Errorf("on %v the pause of %v is %d, less than the bound %d, %v", r, rounds, pause, bound, fine)
	}
	return pause, ok
}

// checkLeastPauses holds that ring patrols, and the one of one guard on a line, have the least pauses of all patrols that were tried.
func checkLeastPauses(t *testing.T, r impl.Road, least [4]int) {
	t.Helper()
	for k := 1; k <= 3; k++ {
		rounds, ok := impl.RingPatrol(r, k)
		if !r.Ring {
			rounds, ok = impl.PartPatrol(r, 1)
		}
		pause, fine := impl.PauseOf(r, rounds)
		if !ok || !fine || pause > least[len(rounds)] || len(rounds) == 1 && pause != least[1] {
			t.Errorf("on %v %v has the pause %d, %v; the least one is %v", r, rounds, pause, fine, least)
		}
	}
}

func TestGuardsNeededKnown(t *testing.T) {
	known := []struct {
		road        impl.Road
		pause, want int
	}{
		{line(5), 4, 2}, {line(5), 8, 1}, {line(5), 7, 2}, {line(5), 3, 3}, {line(5), 2, 3}, {line(5), 1, 5}, {ring(5), 5, 1}, {ring(5), 4, 2}, {ring(5), 3, 2}, {ring(5), 2, 3}, {ring(5), 1, 5}, {ring(6), 1, 6}, {ring(7), 1, -1},
		{line(6), 1, 6}, {line(7), 1, -1}, {line(7), 2, 4}, {line(2), 1, 2}, {line(2), 2, 1}, {line(24), 46, 1}, {line(24), 45, 2}, {line(24), 6, 6}, {line(24), 5, -1}, {ring(24), 4, 6}, {ring(24), 3, -1}, {ring(24), 24, 1}, {ring(24), 23, 2},
		{line(5), 0, -1}, {ring(5), 0, -1}, {line(2), -1, -1}, {ring(3), -5, -1}, {line(24), math.MaxInt, 1}, {ring(24), math.MaxInt, 1}, {line(2), math.MinInt, -1}, {ring(3), math.MinInt, -1},
	}
	for _, k := range known {
		wantGuards(t, k.road, k.pause, k.want)
	}
}

// wantGuards holds how many guards are needed against what it is, -1 if there are too few.
func wantGuards(t *testing.T, r impl.Road, pause int, want int) {
	t.Helper()
	if k, ok := impl.GuardsNeeded(r, pause); ok != (want >= 0) || k != max(0, want) {
		t.Errorf("GuardsNeeded(%v, %d) = %d, %v; want %d", r, pause, k, ok, want)
	}
}

func TestGuardsNeededOfAll(t *testing.T) {
	for _, r := range allRoads(24) {
		for pause := -3; pause <= 60; pause++ {
			want := -1
			for k := 6; k >= 1; k-- {
				rounds := guardedByWords(r, k)
				if len(rounds) == 0 {
					continue
				}
				if _, longest := idleOfAll(r, rounds); longest <= pause {
					want = k
				}
			}
			wantGuards(t, r, pause, want)
		}
	}
	for _, r := range wrongRoads {
		for _, pause := range []int{0, 1, 2, 60, math.MaxInt, -1} {
			wantGuards(t, r, pause, -1)
		}
	}
}

// checkSameIdle holds that a patrol made from another one has the same idle times.
func checkSameIdle(t *testing.T, r impl.Road, made [][]int, rounds [][]int) {
	t.Helper()
	want, _ := idleOfAll(r, rounds)
	idle, ok := impl.IdleTimes(r, made)
	wantList(t, "IdleTimes", idle, ok, want)
}

func TestShiftPatrolKnown(t *testing.T) {
	rounds := [][]int{{0, 1, 2, 1}, {3, 4, 4, 3}}
	for by, want := range map[int][][]int{0: rounds, 1: {{1, 2, 1, 0}, {4, 4, 3, 3}}, 2: {{2, 1, 0, 1}, {4, 3, 3, 4}}, 3: {{1, 0, 1, 2}, {3, 3, 4, 4}}, 4: rounds, 5: {{1, 2, 1, 0}, {4, 4, 3, 3}}, 59: {{1, 0, 1, 2}, {3, 3, 4, 4}}, 60: rounds} {
		shifted, ok := impl.ShiftPatrol(line(5), rounds, by)
		wantRounds(t, "ShiftPatrol", shifted, ok, want)
	}
}

// TestShiftPatrol holds where shifted guards are, that idle times are kept, and that other numbers fail.
func TestShiftPatrol(t *testing.T) {
	for _, r := range []impl.Road{line(2), line(3), line(7), line(24), ring(3), ring(8), ring(24)} {
		for _, rounds := range append(somePatrols(r), guardedByWords(r, 2), guardedByWords(r, 1)) {
			for by := 0; by <= 60; by++ {
				want := [][]int{}
				for _, round := range rounds {
					later := []int{}
					for time := range round {
						later = append(later, round[(time+by)%len(round)])
					}
					want = append(want, later)
				}
				shifted, ok := impl.ShiftPatrol(r, rounds, by)
				wantRounds(t, "ShiftPatrol", shifted, ok, want)
				if by%7 == 1 {
					checkSameIdle(t, r, shifted, rounds)
				}
			}
			for _, by := range []int{-1, -2, -60, 61, 62, 120, 1000, math.MaxInt, math.MinInt, -len(rounds[0]), 60 + len(rounds[0])} {
				shifted, ok := impl.ShiftPatrol(r, rounds, by)
				wantNoRounds(t, "ShiftPatrol", shifted, ok)
			}
		}
	}
}

func TestJoinPatrolsKnown(t *testing.T) {
	known := []struct {
		road       impl.Road
		a, b, want [][]int
	}{
		{line(5), [][]int{{0, 1}}, [][]int{{2, 3, 2, 1}}, [][]int{{0, 1, 0, 1}, {2, 3, 2, 1}}}, {line(5), [][]int{{2, 3, 2, 1}}, [][]int{{0, 1}}, [][]int{{2, 3, 2, 1}, {0, 1, 0, 1}}},
		{line(5), [][]int{{0}}, [][]int{{4}}, [][]int{{0}, {4}}}, {line(5), [][]int{{0}, {1}}, [][]int{{3, 4}}, [][]int{{0, 0}, {1, 1}, {3, 4}}}, {line(2), [][]int{{0, 1}}, [][]int{{0, 1}}, [][]int{{0, 1}, {0, 1}}},
		{ring(3), [][]int{{0, 1, 2}}, [][]int{{0, 1}, {1, 1}}, [][]int{{0, 1, 2, 0, 1, 2}, {0, 1, 0, 1, 0, 1}, {1, 1, 1, 1, 1, 1}}},
		{line(4), [][]int{{0, 1, 2, 3, 2, 1}}, [][]int{{2, 3, 3, 2}}, [][]int{{0, 1, 2, 3, 2, 1, 0, 1, 2, 3, 2, 1}, {2, 3, 3, 2, 2, 3, 3, 2, 2, 3, 3, 2}}},
		{line(3), [][]int{{0, 0}}, [][]int{{1}}, [][]int{{0, 0}, {1, 1}}}, {line(3), [][]int{{0}}, [][]int{{1, 1, 1}}, [][]int{{0, 0, 0}, {1, 1, 1}}},
	}
	for _, k := range known {
		joined, ok := impl.JoinPatrols(k.road, k.a, k.b)
		wantRounds(t, "JoinPatrols", joined, ok, k.want)
	}
}

// TestJoinPatrolsOfAllPeriods joins a guard that stays and one that goes, of all two periods.
func TestJoinPatrolsOfAllPeriods(t *testing.T) {
	r := line(3)
	for n := 1; n <= 60; n++ {
		for m := 1; m <= 60; m++ {
			a, b := [][]int{make([]int, n)}, [][]int{append(slices.Repeat([]int{2}, m-1), 1)}
			common := n
			for common%m != 0 {
				common += n
			}
			joined, ok := impl.JoinPatrols(r, a, b)
			if common > 60 {
				wantNoRounds(t, "JoinPatrols", joined, ok)
				continue
			}
			wantRounds(t, "JoinPatrols", joined, ok, [][]int{make([]int, common), slices.Repeat(b[0], common/m)})
		}
	}
}

// TestLeastCommonPeriods takes periods whose least common one is just MaxTime, or just more.
func TestLeastCommonPeriods(t *testing.T) {
	for pair, fits := range map[[2]int]bool{{4, 15}: true, {12, 5}: true, {60, 1}: true, {20, 30}: true, {60, 60}: true, {59, 1}: true, {8, 16}: true, {31, 2}: false, {2, 31}: false, {9, 7}: false, {8, 15}: false, {60, 59}: false, {60, 7}: false} {
		a, b := [][]int{slices.Repeat([]int{1}, pair[0])}, [][]int{slices.Repeat([]int{2}, pair[1])}
		joined, ok := impl.JoinPatrols(ring(3), a, b)
		if ok != fits || ok != (len(joined) == 2) || !ok && len(joined) != 0 {
			t.Errorf("JoinPatrols of the periods %v = %v, %v", pair, joined, ok)
		}
	}
}

func TestJoinPatrolsOfManyGuards(t *testing.T) {
	for n := 1; n <= 6; n++ {
		for m := 1; m <= 6; m++ {
			joined, ok := impl.JoinPatrols(line(2), slices.Repeat([][]int{{0}}, n), slices.Repeat([][]int{{1, 0}}, m))
			if n+m > 6 {
				wantNoRounds(t, "JoinPatrols", joined, ok)
			} else {
				wantRounds(t, "JoinPatrols", joined, ok, append(slices.Repeat([][]int{{0, 0}}, n), slices.Repeat([][]int{{1, 0}}, m)...))
			}
		}
	}
}

// TestJoinedPatrolsAreNotIdler holds that joined patrols leave no place idle for longer than each of both alone.
func TestJoinedPatrolsAreNotIdler(t *testing.T) {
	joins := 0
	for _, r := range allRoads(24) {
		patrols := somePatrols(r)
		for i, a := range patrols {
			for _, b := range patrols[:i+1] {
				joined, ok := impl.JoinPatrols(r, a, b)
				if !ok {
					continue
				}
				joins++
				idle, _ := impl.IdleTimes(r, joined)
				for p := range r.Size {
					one, other := idleByGoing(a, p), idleByGoing(b, p)
					if one >= 0 && idle[p] > one || other >= 0 && idle[p] > other || idle[p] < 0 && max(one, other) >= 0 {
						t.Errorf("on %v %v and %v leave %d idle for %d and %d, joined for %d", r, a, b, p, one, other, idle[p])
					}
				}
			}
		}
	}
	if joins < 1000 {
		t.Error("few patrols were joined:", joins)
	}
}

// TestMirrorAndBackPatrol holds both against turning each round by itself.
func TestMirrorAndBackPatrol(t *testing.T) {
	checkPatrols(t, func(t *testing.T, r impl.Road, rounds [][]int) {
		mirrored, back := [][]int{}, [][]int{}
		for _, round := range rounds {
			mirror, opposite := []int{}, []int{}
			for i, p := range round {
				mirror = append(mirror, r.Size-1-p)
				opposite = append(opposite, round[len(round)-1-i])
			}
			mirrored, back = append(mirrored, mirror), append(back, opposite)
		}
		got, ok := impl.MirrorPatrol(r, rounds)
		wantRounds(t, "MirrorPatrol", got, ok, mirrored)
		idle, _ := impl.IdleTimes(r, got)
		want, _ := idleOfAll(r, rounds)
		slices.Reverse(want)
		wantList(t, "IdleTimes of the mirrored", idle, true, want)
		got, ok = impl.BackPatrol(r, rounds)
		wantRounds(t, "BackPatrol", got, ok, back)
		checkSameIdle(t, r, got, rounds)
	})
}

func TestMirrorAndBackPatrolKnown(t *testing.T) {
	known := []struct {
		road                   impl.Road
		rounds, mirrored, back [][]int
	}{
		{line(5), [][]int{{0, 1}}, [][]int{{4, 3}}, [][]int{{1, 0}}}, {line(5), [][]int{{0, 1, 2, 1}, {3, 4, 4, 3}}, [][]int{{4, 3, 2, 3}, {1, 0, 0, 1}}, [][]int{{1, 2, 1, 0}, {3, 4, 4, 3}}},
		{line(2), [][]int{{0}}, [][]int{{1}}, [][]int{{0}}}, {line(5), [][]int{{2}}, [][]int{{2}}, [][]int{{2}}}, {ring(4), [][]int{{0, 1, 2, 3}}, [][]int{{3, 2, 1, 0}}, [][]int{{3, 2, 1, 0}}}, {ring(3), [][]int{{0, 2, 2}}, [][]int{{2, 0, 0}}, [][]int{{2, 2, 0}}},
		{line(24), [][]int{{23}, {0}, {7}}, [][]int{{0}, {23}, {16}}, [][]int{{23}, {0}, {7}}},
	}
	for _, k := range known {
		mirrored, ok := impl.MirrorPatrol(k.road, k.rounds)
		wantRounds(t, "MirrorPatrol", mirrored, ok, k.mirrored)
		back, ok := impl.BackPatrol(k.road, k.rounds)
		wantRounds(t, "BackPatrol", back, ok, k.back)
	}
}

// TestPatrolsThatAreNot gives wrong patrols, on right roads, and right patrols on wrong roads, to all functions.
func TestPatrolsThatAreNot(t *testing.T) {
	for _, r := range []impl.Road{line(2), line(3), line(4), line(24), ring(3), ring(4), ring(24)} {
		for _, rounds := range wrongPatrols(r) {
			wantIsPatrol(t, r, rounds, false, true)
			checkNoPatrol(t, r, rounds)
		}
	}
	for _, r := range wrongRoads {
		for _, rounds := range [][][]int{nil, {}, {{}}, {{0}}, {{0, 1}}, {{0}, {0}}, {{0, 1, 0}, {1, 1, 1}}, {{-1}}} {
			checkNoPatrol(t, r, rounds)
		}
	}
}

func checkNoPatrol(t *testing.T, r impl.Road, rounds [][]int) {
	t.Helper()
	for _, p := range []int{0, 1, r.Size - 1} {
		visits, ok := impl.VisitTimes(r, rounds, p)
		wantNoList(t, "VisitTimes", visits, ok)
	}
	idle, ok := impl.IdleTimes(r, rounds)
	wantNoList(t, "IdleTimes", idle, ok)
	wantPause(t, r, rounds, -1)
	for _, by := range []int{0, 1, 60, -1, 61} {
		shifted, ok := impl.ShiftPatrol(r, rounds, by)
		wantNoRounds(t, "ShiftPatrol", shifted, ok)
	}
	for _, pair := range [][2][][]int{{rounds, {{0}}}, {{{0}}, rounds}, {rounds, rounds}, {{{0, 1}, {1, 0}}, rounds}} {
		joined, ok := impl.JoinPatrols(r, pair[0], pair[1])
		wantNoRounds(t, "JoinPatrols", joined, ok)
	}
	mirrored, ok := impl.MirrorPatrol(r, rounds)
	wantNoRounds(t, "MirrorPatrol", mirrored, ok)
	back, ok := impl.BackPatrol(r, rounds)
	wantNoRounds(t, "BackPatrol", back, ok)
}

// TestPatrolsAreKeptApart changes results, and looks whether arguments, later results or other lists have changed with them.
func TestPatrolsAreKeptApart(t *testing.T) {
	r := ring(4)
	long := []int{77, 0, 1, 2, 3, 88, 3, 2, 2, 3, 99}
	before := slices.Clone(long)
	a, b := [][]int{long[1:5], long[1:5]}, [][]int{long[6:10], long[1:5], long[6:10]}
	short := [][]int{long[1:3]}
	calls := map[string]func() ([][]int, bool){
		"VisitTimes":           func() ([][]int, bool) { list, ok := impl.VisitTimes(r, b, 3); return [][]int{list}, ok },
		"IdleTimes":            func() ([][]int, bool) { list, ok := impl.IdleTimes(r, b); return [][]int{list}, ok },
		"RingPatrol":           func() ([][]int, bool) { return impl.RingPatrol(ring(3), 6) },
		"PartPatrol":           func() ([][]int, bool) { return impl.PartPatrol(line(7), 3) },
		"PartPatrol of places": func() ([][]int, bool) { return impl.PartPatrol(line(6), 6) },
		"ShiftPatrol":          func() ([][]int, bool) { return impl.ShiftPatrol(r, a, 3) },
		"ShiftPatrol by 0":     func() ([][]int, bool) { return impl.ShiftPatrol(r, a, 0) },
		"JoinPatrols":          func() ([][]int, bool) { return impl.JoinPatrols(r, a, b) },
		"JoinPatrols of one":   func() ([][]int, bool) { return impl.JoinPatrols(r, a, a) },
		"JoinPatrols of short": func() ([][]int, bool) { return impl.JoinPatrols(r, short, b) },
		"MirrorPatrol":         func() ([][]int, bool) { return impl.MirrorPatrol(r, b) },
		"BackPatrol":           func() ([][]int, bool) { return impl.BackPatrol(r, b) },
	}
	checkKeptApart(t, calls)
	impl.IsPatrol(r, a)
	impl.PauseOf(r, b)
	if !slices.Equal(long, before) || !reflect.DeepEqual(a, [][]int{before[1:5], before[1:5]}) || !reflect.DeepEqual(b, [][]int{before[6:10], before[1:5], before[6:10]}) {
		t.Error("arguments have changed:", long, a, b)
	}
}

// checkKeptApart changes the lists of each call, one by one, and looks whether other lists or later results have changed with them.
func checkKeptApart(t *testing.T, calls map[string]func() ([][]int, bool)) {
	t.Helper()
	for name, call := range calls {
		want, ok := call()
		got, again := call()
		if !ok || !again || len(want) == 0 || !reflect.DeepEqual(want, got) {
			t.Errorf("%s = %v, %v, then %v, %v", name, want, ok, got, again)
		}
		for i := range got {
			spoil(got[i])
			got[i] = want[i]
			wantRounds(t, name+", changed elsewhere", got, ok, want)
		}
		got, ok = call()
		wantRounds(t, name, got, ok, want)
	}
}
