package tests

import (
	"math"
	"regexp"
	"slices"
	"strconv"
	"strings"
	"testing"

	"loop.example/g01148/impl"
)

func line(size int) impl.Road { return impl.Road{Size: size} }

func ring(size int) impl.Road { return impl.Road{Size: size, Ring: true} }

// allRoads returns the lines and rings of at most so many places.
func allRoads(most int) []impl.Road {
	roads := []impl.Road{}
	for size := 2; size <= most; size++ {
		roads = append(roads, line(size))
		if size > 2 {
			roads = append(roads, ring(size))
		}
	}
	return roads
}

var wrongRoads = []impl.Road{
	{}, {Ring: true}, {Size: 1}, {Size: 1, Ring: true}, {Size: 2, Ring: true}, {Size: 25}, {Size: 25, Ring: true},
	{Size: -1}, {Size: -5, Ring: true}, {Size: math.MaxInt}, {Size: math.MaxInt, Ring: true}, {Size: math.MinInt}, {Size: math.MinInt, Ring: true},
}

// wrongPlaces returns numbers that are no places of a road.
func wrongPlaces(r impl.Road) []int {
	return []int{-1, r.Size, r.Size + 1, -r.Size, 24, 100, math.MaxInt, math.MaxInt - 1, math.MinInt, math.MinInt + 1}
}

// wrongWalks returns lists that are no walks on a road.
func wrongWalks(r impl.Road) [][]int {
	walks := [][]int{nil, {}, slices.Repeat([]int{0}, 62), slices.Repeat([]int{1}, 1000), slices.Repeat([]int{0, 1}, 31), {0, 1, -1}, {r.Size - 1, r.Size}}
	for _, p := range wrongPlaces(r) {
		walks = append(walks, []int{p}, []int{0, p}, []int{p, 0}, []int{1, 0, p}, []int{p, p}, []int{p, p + 1})
	}
	if !r.Ring && r.Size > 2 {
		walks = append(walks, []int{0, r.Size - 1}, []int{r.Size - 1, 0}, []int{0, 0, r.Size - 1})
	}
	for p := range r.Size {
		for q := range r.Size {
			if p != q && !besides(r, p, q) {
				walks = append(walks, []int{p, q}, []int{p, p, q}, []int{p, q, q})
			}
		}
	}
	return walks
}

// besides tells by the document's words whether two places are neighbors.
func besides(r impl.Road, p int, q int) bool {
	low, high := min(p, q), max(p, q)
	return high-low == 1 || r.Ring && low == 0 && high == r.Size-1
}

// walksFrom yields all walks of n places from a place on a road.
func walksFrom(r impl.Road, p int, n int) func(func([]int) bool) {
	return func(yield func([]int) bool) {
		extendWalk(r, []int{p}, n, yield)
	}
}

func extendWalk(r impl.Road, w []int, n int, yield func([]int) bool) bool {
	if len(w) == n {
		return yield(slices.Clone(w))
	}
	for q := range r.Size {
		last := w[len(w)-1]
		if (q == last || besides(r, q, last)) && !extendWalk(r, append(w, q), n, yield) {
			return false
		}
	}
	return true
}

// shortWalks returns all walks of at most n places on a road.
func shortWalks(r impl.Road, n int) [][]int {
	walks := [][]int{}
	for length := 1; length <= n; length++ {
		for p := range r.Size {
			for w := range walksFrom(r, p, length) {
				walks = append(walks, w)
			}
		}
	}
	return walks
}

// longWalk returns a walk of n places that wanders with stays and turns, by a fixed rule.
func longWalk(r impl.Road, start int, n int, rule int) []int {
	w := []int{start}
	for t := 1; t < n; t++ {
		near := []int{}
		for q := range r.Size {
			if q == w[t-1] || besides(r, q, w[t-1]) {
				near = append(near, q)
			}
		}
		w = append(w, near[(t*t*rule+t/3+rule)%7%len(near)])
	}
	return w
}

// someWalks returns short and long walks on a road.
func someWalks(r impl.Road) [][]int {
	walks := [][]int{}
	for _, n := range []int{1, 2, 5, 30, 60, 61} {
		for rule := range 6 {
			walks = append(walks, longWalk(r, rule%r.Size, n, rule))
		}
	}
	return walks
}

// checkWalks calls check for all walks of at most n places on small roads, and for some walks on all roads.
func checkWalks(t *testing.T, n int, check func(*testing.T, impl.Road, []int)) {
	t.Helper()
	for _, r := range allRoads(5) {
		for _, w := range shortWalks(r, n) {
			check(t, r, w)
		}
	}
	for _, r := range allRoads(24) {
		for _, w := range someWalks(r) {
			check(t, r, w)
		}
	}
}

func wantList(t *testing.T, what string, got []int, ok bool, want []int) {
	t.Helper()
	if !ok || !slices.Equal(got, want) {
		t.Errorf("%s = %v, %v; want %v, true", what, got, ok, want)
	}
}

func wantNoList(t *testing.T, what string, got []int, ok bool) {
	t.Helper()
	if ok || len(got) != 0 {
		t.Errorf("%s = %v, %v; want none, false", what, got, ok)
	}
}

func wantNumber(t *testing.T, what string, got int, ok bool, want int) {
	t.Helper()
	if !ok || got != want {
		t.Errorf("%s = %d, %v; want %d, true", what, got, ok, want)
	}
}

func wantNoNumber(t *testing.T, what string, got int, ok bool) {
	t.Helper()
	if ok || got != 0 {
		t.Errorf("%s = %d, %v; want 0, false", what, got, ok)
	}
}

func TestLimitsOfRoads(t *testing.T) {
	if impl.MaxPlaces != 24 || impl.MaxTime != 60 {
		t.Error("limits", impl.MaxPlaces, impl.MaxTime)
	}
}

func TestIsRoad(t *testing.T) {
	for size := -3; size <= 30; size++ {
		if impl.IsRoad(line(size)) != (size >= 2 && size <= 24) {
			t.Error("line", size)
		}
		if impl.IsRoad(ring(size)) != (size >= 3 && size <= 24) {
			t.Error("ring", size)
		}
	}
	for _, r := range wrongRoads {
		if impl.IsRoad(r) {
			t.Error("is a road:", r)
		}
	}
}

func TestNeighborsOn(t *testing.T) {
	known := []struct {
		road impl.Road
		p    int
		want []int
	}{
		{line(2), 0, []int{1}}, {line(2), 1, []int{0}}, {line(3), 1, []int{0, 2}}, {line(24), 23, []int{22}}, {line(24), 0, []int{1}},
		{ring(3), 0, []int{1, 2}}, {ring(3), 1, []int{0, 2}}, {ring(3), 2, []int{0, 1}}, {ring(24), 0, []int{1, 23}}, {ring(24), 23, []int{0, 22}},
	}
	for _, k := range known {
		got, ok := impl.NeighborsOn(k.road, k.p)
		wantList(t, "NeighborsOn", got, ok, k.want)
	}
	for _, r := range allRoads(24) {
		for p := range r.Size {
			want := []int{}
			for q := range r.Size {
				if besides(r, p, q) {
					want = append(want, q)
				}
			}
			got, ok := impl.NeighborsOn(r, p)
			wantList(t, "NeighborsOn", got, ok, want)
		}
	}
}

// leastSteps returns the least number of steps from a place to all places, going from neighbor to neighbor.
func leastSteps(r impl.Road, a int) []int {
	steps := slices.Repeat([]int{-1}, r.Size)
	steps[a] = 0
	queue := []int{a}
	for len(queue) > 0 {
		p := queue[0]
		queue = queue[1:]
		for q := range r.Size {
			if besides(r, p, q) && steps[q] < 0 {
				steps[q] = steps[p] + 1
				queue = append(queue, q)
			}
		}
	}
	return steps
}

func TestGapsAndStraightWalks(t *testing.T) {
	for _, r := range allRoads(24) {
		for a := range r.Size {
			steps := leastSteps(r, a)
			for b := range r.Size {
				gap, ok := impl.GapOf(r, a, b)
				wantNumber(t, "GapOf", gap, ok, steps[b])
				checkStraight(t, r, a, b, steps[b])
			}
		}
	}
}

func checkStraight(t *testing.T, r impl.Road, a int, b int, gap int) {
	t.Helper()
	w, ok := impl.StraightWalk(r, a, b)
	is, _ := impl.IsWalk(r, w)
	if !ok || !is || len(w) != gap+1 || w[0] != a || w[gap] != b {
		t.Errorf("StraightWalk(%v, %d, %d) = %v, %v", r, a, b, w, ok)
		return
	}
	if r.Ring && 2*gap == r.Size && w[1] != (a+1)%r.Size {
		t.Errorf("StraightWalk(%v, %d, %d) = %v begins in the other direction", r, a, b, w)
	}
}

func TestStraightWalkKnown(t *testing.T) {
	known := []struct {
		road impl.Road
		a, b int
		want []int
	}{
		{line(2), 0, 1, []int{0, 1}}, {line(2), 1, 0, []int{1, 0}}, {line(5), 3, 3, []int{3}}, {line(5), 4, 1, []int{4, 3, 2, 1}},
		{ring(6), 0, 3, []int{0, 1, 2, 3}}, {ring(6), 3, 0, []int{3, 4, 5, 0}}, {ring(6), 4, 1, []int{4, 5, 0, 1}}, {ring(6), 1, 5, []int{1, 0, 5}},
		{ring(5), 0, 3, []int{0, 4, 3}}, {ring(5), 3, 0, []int{3, 4, 0}}, {ring(3), 0, 2, []int{0, 2}}, {ring(3), 2, 0, []int{2, 0}}, {ring(3), 1, 1, []int{1}}, {ring(4), 0, 2, []int{0, 1, 2}},
	}
	for _, k := range known {
		got, ok := impl.StraightWalk(k.road, k.a, k.b)
		wantList(t, "StraightWalk", got, ok, k.want)
	}
}

func TestPlacesThatAreNot(t *testing.T) {
	for _, r := range []impl.Road{line(2), line(5), line(24), ring(3), ring(6), ring(24)} {
		for _, p := range wrongPlaces(r) {
			if p >= 0 && p < r.Size {
				continue
			}
			checkNoPlace(t, r, p, 0)
		}
	}
	for _, r := range wrongRoads {
		for _, p := range []int{0, 1, -1} {
			checkNoPlace(t, r, p, p)
		}
		tour, ok := impl.TourTime(r, 0, []int{})
		wantNoNumber(t, "TourTime", tour, ok)
	}
}

// checkNoPlace holds that functions of places fail for p, together with another place.
func checkNoPlace(t *testing.T, r impl.Road, p int, other int) {
	t.Helper()
	near, ok := impl.NeighborsOn(r, p)
	wantNoList(t, "NeighborsOn", near, ok)
	gap, ok := impl.GapOf(r, p, other)
	wantNoNumber(t, "GapOf", gap, ok)
	gap, ok = impl.GapOf(r, other, p)
	wantNoNumber(t, "GapOf", gap, ok)
	w, ok := impl.StraightWalk(r, p, other)
	wantNoList(t, "StraightWalk", w, ok)
	w, ok = impl.StraightWalk(r, other, p)
	wantNoList(t, "StraightWalk", w, ok)
	w, ok = impl.StraightWalk(r, p, p)
	wantNoList(t, "StraightWalk", w, ok)
	w, ok = impl.SweepWalk(r, p)
	wantNoList(t, "SweepWalk", w, ok)
	tour, ok := impl.TourTime(r, p, []int{other})
	wantNoNumber(t, "TourTime", tour, ok)
	tour, ok = impl.TourTime(r, p, nil)
	wantNoNumber(t, "TourTime", tour, ok)
	tour, ok = impl.TourTime(r, other, []int{other, p})
	wantNoNumber(t, "TourTime", tour, ok)
	tour, ok = impl.TourTime(r, other, []int{p, other})
	wantNoNumber(t, "TourTime", tour, ok)
}

func TestIsWalk(t *testing.T) {
	for _, r := range allRoads(24) {
		for _, w := range append(someWalks(r), []int{0}, []int{1, 0, 0, 1}, slices.Repeat([]int{1}, 61)) {
			if is, ok := impl.IsWalk(r, w); !ok || !is {
				t.Errorf("IsWalk(%v, %v) = %v, %v", r, w, is, ok)
			}
		}
		for _, w := range wrongWalks(r) {
			if is, ok := impl.IsWalk(r, w); !ok || is != isWalkByWords(r, w) {
				t.Errorf("IsWalk(%v, %v) = %v, %v", r, w, is, ok)
			}
		}
	}
	for _, r := range wrongRoads {
		for _, w := range [][]int{nil, {0}, {0, 1}, {-1}} {
			if is, ok := impl.IsWalk(r, w); ok || is {
				t.Errorf("IsWalk(%v, %v) = %v, %v", r, w, is, ok)
			}
		}
	}
}

// isWalkByWords is the document's definition of a walk.
func isWalkByWords(r impl.Road, w []int) bool {
	for i, p := range w {
		if p < 0 || p >= r.Size || i > 0 && p != w[i-1] && !besides(r, p, w[i-1]) {
			return false
		}
	}
	return len(w) >= 1 && len(w) <= 61
}

// TestIsWalkOfShortLists takes all lists of at most 4 numbers on small roads.
func TestIsWalkOfShortLists(t *testing.T) {
	for _, r := range allRoads(5) {
		lists := [][]int{{}}
		for i := 0; i < len(lists); i++ {
			if is, ok := impl.IsWalk(r, lists[i]); !ok || is != isWalkByWords(r, lists[i]) {
				t.Fatalf("IsWalk(%v, %v) = %v, %v", r, lists[i], is, ok)
			}
			if len(lists[i]) < 4 {
				for p := -1; p <= r.Size; p++ {
					lists = append(lists, append(slices.Clone(lists[i]), p))
				}
			}
		}
	}
}

func TestPlaceAt(t *testing.T) {
	for _, r := range allRoads(24) {
		for _, w := range someWalks(r) {
			for time := range 70 {
				p, ok := impl.PlaceAt(r, w, time)
				if time < len(w) {
					wantNumber(t, "PlaceAt", p, ok, w[time])
				} else {
					wantNumber(t, "PlaceAt", p, ok, w[len(w)-1])
				}
			}
			p, ok := impl.PlaceAt(r, w, math.MaxInt)
			wantNumber(t, "PlaceAt", p, ok, w[len(w)-1])
			for _, time := range []int{-1, -2, math.MinInt} {
				p, ok := impl.PlaceAt(r, w, time)
				wantNoNumber(t, "PlaceAt", p, ok)
			}
		}
	}
}

// visitsByWalking notes the first visits while it goes along the walk.
func visitsByWalking(r impl.Road, w []int) []int {
	visits := slices.Repeat([]int{-1}, r.Size)
	for time, p := range w {
		if visits[p] < 0 {
			visits[p] = time
		}
	}
	return visits
}

func TestVisitsOfWalks(t *testing.T) {
	checkWalks(t, 6, checkVisits)
}

func checkVisits(t *testing.T, r impl.Road, w []int) {
	t.Helper()
	want := visitsByWalking(r, w)
	visits, ok := impl.FirstVisits(r, w)
	wantList(t, "FirstVisits", visits, ok, want)
	cover, ok := impl.CoverTime(r, w)
	if slices.Min(want) < 0 {
		wantNoNumber(t, "CoverTime", cover, ok)
	} else {
		wantNumber(t, "CoverTime", cover, ok, slices.Max(want))
	}
}

func TestCoverTimeKnown(t *testing.T) {
	known := []struct {
		road impl.Road
		w    []int
		want int
	}{
		{line(2), []int{0, 1}, 1}, {line(2), []int{1, 1, 0, 1, 0}, 2}, {ring(3), []int{0, 2, 1}, 2}, {ring(3), []int{1, 2, 1, 0, 0}, 3}, {line(3), []int{1, 0, 1, 2, 1}, 3},
	}
	for _, k := range known {
		cover, ok := impl.CoverTime(k.road, k.w)
		wantNumber(t, "CoverTime", cover, ok, k.want)
	}
	for _, w := range [][]int{{0}, {0, 0}, {1, 1, 1}, {0, 1, 0}} {
		cover, ok := impl.CoverTime(ring(3), w)
		wantNoNumber(t, "CoverTime", cover, ok)
	}
}

// stepsByDirections returns how many steps go to greater or less places, and when they turn.
func stepsByDirections(r impl.Road, w []int) (int, []int) {
	count, last := 0, ""
	turns := []int{}
	for time := 0; time+1 < len(w); time++ {
		way := "up"
		switch {
		case w[time+1] == w[time]:
			continue
		case r.Ring && w[time] == 0 && w[time+1] == r.Size-1:
			way = "down"
		case r.Ring && w[time] == r.Size-1 && w[time+1] == 0:
			way = "up"
		case w[time+1] < w[time]:
			way = "down"
		}
		if last != "" && last != way {
			turns = append(turns, time)
		}
		count++
		last = way
	}
	return count, turns
}

func TestStepsAndTurns(t *testing.T) {
	checkWalks(t, 6, checkSteps)
}

func checkSteps(t *testing.T, r impl.Road, w []int) {
	t.Helper()
	wantCount, wantTurns := stepsByDirections(r, w)
	count, ok := impl.StepCount(r, w)
	wantNumber(t, "StepCount", count, ok, wantCount)
	turns, ok := impl.TurnTimes(r, w)
	wantList(t, "TurnTimes", turns, ok, wantTurns)
}

func TestTurnTimesKnown(t *testing.T) {
	known := []struct {
		road impl.Road
		w    []int
		want []int
	}{
		{line(2), []int{0, 1, 0, 1, 1, 0}, []int{1, 2, 4}}, {line(2), []int{0, 1}, nil}, {line(2), []int{1, 0, 0, 0, 1}, []int{3}},
		{line(5), []int{2, 1, 1, 0, 1, 2}, []int{3}}, {line(5), []int{2, 2, 1, 1, 1, 2, 2, 1}, []int{4, 6}}, {line(5), []int{3, 3, 3}, nil},
		{ring(3), []int{0, 1, 2, 0, 1}, nil}, {ring(3), []int{0, 2, 1, 0, 2}, nil}, {ring(3), []int{0, 1, 2, 0, 2}, []int{3}}, {ring(3), []int{1, 0, 2, 2, 0}, []int{3}},
		{ring(4), []int{3, 0, 3, 3, 0}, []int{1, 3}}, {ring(6), []int{5, 0, 1, 0, 5, 4}, []int{2}},
	}
	for _, k := range known {
		got, ok := impl.TurnTimes(k.road, k.w)
		wantList(t, "TurnTimes", got, ok, k.want)
	}
}

func TestFormsOfWalks(t *testing.T) {
	checkWalks(t, 5, checkForms)
}

func checkForms(t *testing.T, r impl.Road, w []int) {
	t.Helper()
	wantMirror, wantBack := make([]int, len(w)), make([]int, len(w))
	for i, p := range w {
		wantMirror[i] = r.Size - 1 - p
		wantBack[len(w)-1-i] = p
	}
	mirror, ok := impl.MirrorWalk(r, w)
	wantList(t, "MirrorWalk", mirror, ok, wantMirror)
	back, ok := impl.BackWalk(r, w)
	wantList(t, "BackWalk", back, ok, wantBack)
	for by := range r.Size {
		wantShift := make([]int, len(w))
		for i, p := range w {
			wantShift[i] = (p + by) % r.Size
		}
		shift, ok := impl.ShiftWalk(r, w, by)
		if r.Ring {
			wantList(t, "ShiftWalk", shift, ok, wantShift)
		} else {
			wantNoList(t, "ShiftWalk", shift, ok)
		}
	}
	checkMirroredVisits(t, r, w)
}

// checkMirroredVisits holds the promise that mirrored walks visit as before.
func checkMirroredVisits(t *testing.T, r impl.Road, w []int) {
	t.Helper()
	mirror, _ := impl.MirrorWalk(r, w)
	back, _ := impl.BackWalk(r, w)
	visits, one := impl.FirstVisits(r, w)
	other, two := impl.FirstVisits(r, mirror)
	slices.Reverse(other)
	if !one || !two || !slices.Equal(visits, other) {
		t.Errorf("%v of %v: visits %v, mirrored %v", w, r, visits, other)
	}
	steps, _ := impl.StepCount(r, w)
	backSteps, _ := impl.StepCount(r, back)
	mirrorSteps, _ := impl.StepCount(r, mirror)
	turns, _ := impl.TurnTimes(r, w)
	mirrorTurns, _ := impl.TurnTimes(r, mirror)
	if steps != backSteps || steps != mirrorSteps || !slices.Equal(turns, mirrorTurns) {
		t.Errorf("%v of %v: steps %d, back %d, mirrored %d", w, r, steps, backSteps, mirrorSteps)
	}
}

func TestShiftWalkByOtherNumbers(t *testing.T) {
	for _, r := range []impl.Road{ring(3), ring(6), ring(24), line(2), line(6)} {
		for _, by := range []int{-1, r.Size, r.Size + 1, -r.Size, 2 * r.Size, math.MaxInt, math.MinInt} {
			w, ok := impl.ShiftWalk(r, []int{0, 1}, by)
			wantNoList(t, "ShiftWalk", w, ok)
		}
	}
	w, ok := impl.ShiftWalk(ring(3), []int{2, 0, 0, 1}, 0)
	wantList(t, "ShiftWalk", w, ok, []int{2, 0, 0, 1})
	w, ok = impl.ShiftWalk(ring(3), []int{2, 0, 0, 1}, 2)
	wantList(t, "ShiftWalk", w, ok, []int{1, 2, 2, 0})
	w, ok = impl.ShiftWalk(line(3), []int{0}, 0)
	wantNoList(t, "ShiftWalk", w, ok)
}

func TestJoinWalks(t *testing.T) {
	for _, r := range allRoads(4) {
		walks := shortWalks(r, 3)
		for _, a := range walks {
			for _, b := range walks {
				w, ok := impl.JoinWalks(r, a, b)
				if a[len(a)-1] == b[0] {
					wantList(t, "JoinWalks", w, ok, append(slices.Clone(a), b[1:]...))
				} else {
					wantNoList(t, "JoinWalks", w, ok)
				}
			}
		}
	}
	stay := slices.Repeat([]int{1}, 70)
	for a := 1; a <= 62; a++ {
		for b := 1; b <= 62; b++ {
			w, ok := impl.JoinWalks(ring(3), stay[:a], stay[:b])
			if a <= 61 && b <= 61 && a+b-1 <= 61 {
				wantList(t, "JoinWalks", w, ok, stay[:a+b-1])
			} else {
				wantNoList(t, "JoinWalks", w, ok)
			}
		}
	}
}

func TestWaitWalk(t *testing.T) {
	for _, r := range allRoads(24) {
		for _, w := range someWalks(r) {
			for time := range w {
				for _, n := range []int{0, 1, 2, 61 - len(w), 62 - len(w), 61, math.MaxInt, math.MaxInt - 1} {
					checkWait(t, r, w, time, n)
				}
			}
		}
	}
	w, ok := impl.WaitWalk(line(2), []int{0, 1}, 1, 2)
	wantList(t, "WaitWalk", w, ok, []int{0, 1, 1, 1})
	w, ok = impl.WaitWalk(line(2), []int{0}, 0, 0)
	wantList(t, "WaitWalk", w, ok, []int{0})
	w, ok = impl.WaitWalk(line(5), []int{2, 2, 3, 4}, 2, 1)
	wantList(t, "WaitWalk", w, ok, []int{2, 2, 3, 3, 4})
}

func checkWait(t *testing.T, r impl.Road, w []int, time int, n int) {
	t.Helper()
	got, ok := impl.WaitWalk(r, w, time, n)
	if n > 61-len(w) {
		wantNoList(t, "WaitWalk", got, ok)
		return
	}
	want := []int{}
	for i, p := range w {
		want = append(want, p)
		for range n {
			if i == time {
				want = append(want, p)
			}
		}
	}
	wantList(t, "WaitWalk", got, ok, want)
}

func TestWaitWalkAtOtherTimes(t *testing.T) {
	for _, w := range [][]int{{0}, {0, 1}, {1, 2, 2, 1}} {
		for _, time := range []int{-1, len(w), len(w) + 1, -len(w), math.MaxInt, math.MinInt} {
			for _, n := range []int{0, 1, 50, 100, -1} {
				got, ok := impl.WaitWalk(line(5), w, time, n)
				wantNoList(t, "WaitWalk", got, ok)
			}
		}
		for _, n := range []int{-1, -2, math.MinInt, math.MinInt + 1} {
			got, ok := impl.WaitWalk(line(5), w, 0, n)
			wantNoList(t, "WaitWalk", got, ok)
		}
	}
}

func TestSweepWalkKnown(t *testing.T) {
	known := []struct {
		road impl.Road
		a    int
		want []int
	}{
		{line(2), 0, []int{0, 1}}, {line(2), 1, []int{1, 0}}, {line(3), 0, []int{0, 1, 2}}, {line(3), 1, []int{1, 0, 1, 2}}, {line(3), 2, []int{2, 1, 0}},
		{line(5), 1, []int{1, 0, 1, 2, 3, 4}}, {line(5), 2, []int{2, 1, 0, 1, 2, 3, 4}}, {line(5), 3, []int{3, 4, 3, 2, 1, 0}},
		{line(4), 1, []int{1, 0, 1, 2, 3}}, {line(4), 2, []int{2, 3, 2, 1, 0}},
		{ring(3), 0, []int{0, 1, 2}}, {ring(3), 1, []int{1, 2, 0}}, {ring(3), 2, []int{2, 0, 1}}, {ring(5), 3, []int{3, 4, 0, 1, 2}},
	}
	for _, k := range known {
		got, ok := impl.SweepWalk(k.road, k.a)
		wantList(t, "SweepWalk", got, ok, k.want)
	}
}

// bagOf is a walker's place with the set of the places that it has visited.
type bagOf struct {
	place   int
	visited int
}

// leastTimes returns the least time for each set of visited places at which a walk from a place can have it.
func leastTimes(r impl.Road, a int) map[int]int {
	return leastTimesAt(r, a, func(int) bool { return true })
}

// leastTimesAt returns the least time for each set of visited places at which a walk from a place can have it and be at a place where it may end.
func leastTimesAt(r impl.Road, a int, mayEnd func(p int) bool) map[int]int {
	seen := map[bagOf]bool{{a, 1 << a}: true}
	times := map[int]int{}
	layer := []bagOf{{a, 1 << a}}
	for time := 0; len(layer) > 0; time++ {
		next := []bagOf{}
		for _, b := range layer {
			if _, known := times[b.visited]; !known && mayEnd(b.place) {
				times[b.visited] = time
			}
			for q := range r.Size {
				other := bagOf{q, b.visited | 1<<q}
				if besides(r, b.place, q) && !seen[other] {
					seen[other] = true
					next = append(next, other)
				}
			}
		}
		layer = next
	}
	return times
}

// TestSweepsAreBest holds the promise that no walk visits all places in less time.
func TestSweepsAreBest(t *testing.T) {
	for _, r := range allRoads(24) {
		for a := range r.Size {
			w, ok := impl.SweepWalk(r, a)
			is, _ := impl.IsWalk(r, w)
			cover, covers := impl.CoverTime(r, w)
			least := leastTimes(r, a)[1<<r.Size-1]
			if !ok || !is || !covers || w[0] != a || cover != least || len(w) != cover+1 {
				t.Errorf("SweepWalk(%v, %d) = %v, %v; least cover time %d", r, a, w, ok, least)
			}
		}
	}
}

// TestToursAreBest takes all sets of places of small roads, in several orders.
func TestToursAreBest(t *testing.T) {
	for _, r := range allRoads(8) {
		for a := range r.Size {
			times := leastTimes(r, a)
			for set := range 1 << r.Size {
				checkTour(t, r, a, set, leastFor(times, set))
			}
		}
	}
	for _, r := range allRoads(24) {
		for a := range r.Size {
			times := leastTimes(r, a)
			for rule := range 40 {
				set := (rule*rule*7919 + rule*104729*(a+1) + rule<<13) % (1 << r.Size)
				checkTour(t, r, a, set, leastFor(times, set))
			}
		}
	}
}

// leastFor returns the least time for any visited set that has all of a set.
func leastFor(times map[int]int, set int) int {
	least := math.MaxInt
	for visited, time := range times {
		if visited&set == set {
			least = min(least, time)
		}
	}
	return least
}

func checkTour(t *testing.T, r impl.Road, a int, set int, want int) {
	t.Helper()
	places := []int{}
	for p := range r.Size {
		if set>>p&1 != 0 {
			places = append(places, p)
		}
	}
	time, ok := impl.TourTime(r, a, places)
	wantNumber(t, "TourTime", time, ok, want)
	slices.Reverse(places)
	time, ok = impl.TourTime(r, a, append(places, places...))
	wantNumber(t, "TourTime", time, ok, want)
}

func TestTourTimeKnown(t *testing.T) {
	known := []struct {
		road   impl.Road
		a      int
		places []int
		want   int
	}{
		{line(5), 2, nil, 0}, {ring(5), 2, []int{}, 0}, {line(5), 2, []int{2, 2, 2}, 0}, {ring(5), 2, []int{2, 2}, 0},
		{line(2), 0, []int{1, 1, 0}, 1}, {line(2), 1, []int{0, 1}, 1}, {line(5), 2, []int{0, 3}, 4}, {line(5), 2, []int{4, 3, 0, 1, 2}, 6}, {line(5), 2, []int{4, 4}, 2},
		{ring(6), 0, []int{2, 5}, 4}, {ring(6), 0, []int{0, 1, 2, 3, 4, 5}, 5}, {ring(6), 0, []int{3}, 3}, {ring(6), 0, []int{2, 4}, 4}, {ring(8), 0, []int{7, 3}, 5}, {ring(8), 0, []int{5, 1}, 5},
		{ring(3), 1, []int{0, 2}, 2}, {ring(24), 0, []int{12}, 12}, {line(24), 11, []int{0, 23}, 34},
	}
	for _, k := range known {
		got, ok := impl.TourTime(k.road, k.a, k.places)
		wantNumber(t, "TourTime", got, ok, k.want)
	}
	many := slices.Repeat([]int{4, 1}, 100000)
	got, ok := impl.TourTime(line(5), 2, many)
	wantNumber(t, "TourTime", got, ok, 4)
	got, ok = impl.TourTime(ring(5), 2, append(many, -1))
	wantNoNumber(t, "TourTime", got, ok)
}

// meetsAndPasses follows two walkers who stay where their walks end.
func meetsAndPasses(a []int, b []int) ([]int, []int) {
	last := max(len(a), len(b)) - 1
	stayA := append(slices.Clone(a), slices.Repeat(a[len(a)-1:], 61)...)
	stayB := append(slices.Clone(b), slices.Repeat(b[len(b)-1:], 61)...)
	meets, passes := []int{}, []int{}
	for time := 0; time <= last; time++ {
		if stayA[time] == stayB[time] {
			meets = append(meets, time)
		}
		if stayA[time] != stayA[time+1] && stayA[time+1] == stayB[time] && stayB[time+1] == stayA[time] {
			passes = append(passes, time)
		}
	}
	return meets, passes
}

func TestMeetingsAndPasses(t *testing.T) {
	for _, r := range allRoads(4) {
		walks := shortWalks(r, 4)
		for _, a := range walks {
			for _, b := range walks {
				checkMeeting(t, r, a, b)
			}
		}
	}
	for _, r := range allRoads(24) {
		walks := someWalks(r)
		for _, a := range walks {
			for _, b := range walks {
				checkMeeting(t, r, a, b)
			}
		}
	}
}

func checkMeeting(t *testing.T, r impl.Road, a []int, b []int) {
	t.Helper()
	wantMeets, wantPasses := meetsAndPasses(a, b)
	meets, ok := impl.MeetTimes(r, a, b)
	wantList(t, "MeetTimes", meets, ok, wantMeets)
	passes, ok := impl.PassTimes(r, a, b)
	wantList(t, "PassTimes", passes, ok, wantPasses)
}

func TestMeetingsKnown(t *testing.T) {
	known := []struct {
		road          impl.Road
		a, b          []int
		meets, passes []int
	}{
		{line(5), []int{0, 1, 2}, []int{2, 1, 0}, []int{1}, nil}, {line(5), []int{0, 1}, []int{1, 0}, nil, []int{0}},
		{line(2), []int{0, 1, 0, 0}, []int{1, 0, 1, 1}, nil, []int{0, 1}}, {line(2), []int{0}, []int{1, 0, 1, 0, 0}, []int{1, 3, 4}, nil},
		{line(5), []int{2}, []int{2}, []int{0}, nil}, {line(5), []int{2, 2}, []int{2, 2, 2}, []int{0, 1, 2}, nil}, {line(5), []int{2, 1}, []int{2, 1}, []int{0, 1}, nil},
		{line(5), []int{0, 1}, []int{4, 3, 2, 1, 0, 1}, []int{3, 5}, nil}, {line(5), []int{0}, []int{3}, nil, nil},
		{ring(3), []int{0, 2}, []int{2, 0}, nil, []int{0}}, {ring(3), []int{0, 1, 2}, []int{2, 1, 0}, []int{1}, nil}, {ring(4), []int{3, 3, 0}, []int{0, 0, 3}, nil, []int{1}},
		{ring(3), []int{0, 1}, []int{1, 2}, nil, nil}, {line(5), []int{0, 1}, []int{1, 1}, []int{1}, nil},
	}
	for _, k := range known {
		for _, pair := range [][2][]int{{k.a, k.b}, {k.b, k.a}} {
			meets, ok := impl.MeetTimes(k.road, pair[0], pair[1])
			wantList(t, "MeetTimes", meets, ok, k.meets)
			passes, ok := impl.PassTimes(k.road, pair[0], pair[1])
			wantList(t, "PassTimes", passes, ok, k.passes)
		}
	}
}

func TestWalksThatAreNot(t *testing.T) {
	for _, r := range []impl.Road{line(2), line(3), line(6), line(24), ring(3), ring(4), ring(6), ring(24)} {
		for _, w := range wrongWalks(r) {
			if !isWalkByWords(r, w) {
				checkNoWalk(t, r, w)
			}
		}
	}
	for _, r := range wrongRoads {
		for _, w := range [][]int{nil, {0}, {0, 1}, {0, 0}, {-1}} {
			checkNoWalk(t, r, w)
		}
	}
}

// checkNoWalk holds that all functions of walks fail for w.
func checkNoWalk(t *testing.T, r impl.Road, w []int) {
	t.Helper()
	n, ok := impl.PlaceAt(r, w, 0)
	wantNoNumber(t, "PlaceAt", n, ok)
	n, ok = impl.CoverTime(r, w)
	wantNoNumber(t, "CoverTime", n, ok)
	n, ok = impl.StepCount(r, w)
	wantNoNumber(t, "StepCount", n, ok)
	if s, ok := impl.WalkText(r, w); ok || s != "" {
		t.Errorf("WalkText(%v, %v) = %q, %v", r, w, s, ok)
	}
	forms := map[string]func(impl.Road, []int) ([]int, bool){
		"FirstVisits": impl.FirstVisits, "TurnTimes": impl.TurnTimes, "MirrorWalk": impl.MirrorWalk, "BackWalk": impl.BackWalk,
		"ShiftWalk": func(r impl.Road, w []int) ([]int, bool) { return impl.ShiftWalk(r, w, 0) },
		"WaitWalk":  func(r impl.Road, w []int) ([]int, bool) { return impl.WaitWalk(r, w, 0, 0) },
	}
	for name, form := range forms {
		got, ok := form(r, w)
		wantNoList(t, name, got, ok)
	}
	pairs := map[string]func(impl.Road, []int, []int) ([]int, bool){"JoinWalks": impl.JoinWalks, "MeetTimes": impl.MeetTimes, "PassTimes": impl.PassTimes}
	others := [][]int{w, {0}, {1}}
	if len(w) > 0 {
		others = append(others, w[:1], w[len(w)-1:])
	}
	for name, pair := range pairs {
		for _, other := range others {
			got, ok := pair(r, w, other)
			wantNoList(t, name, got, ok)
			got, ok = pair(r, other, w)
			wantNoList(t, name, got, ok)
		}
	}
}

func TestWalkTextsRoundTrip(t *testing.T) {
	for _, r := range allRoads(24) {
		for _, w := range append(someWalks(r), shortWalks(r, 2)...) {
			want := "line "
			if r.Ring {
				want = "ring "
			}
			want += strconv.Itoa(r.Size) + " "
			for i, p := range w {
				if i > 0 {
					want += ","
				}
				want += strconv.Itoa(p)
			}
			if s, ok := impl.WalkText(r, w); !ok || s != want {
				t.Errorf("WalkText(%v, %v) = %q, %v", r, w, s, ok)
			}
			road, walk, ok := impl.ParseWalk(want)
			if road != r {
				t.Errorf("ParseWalk(%q) = %v", want, road)
			}
			wantList(t, "ParseWalk", walk, ok, w)
		}
	}
}

func wantNoWalkText(t *testing.T, s string) {
	t.Helper()
	if r, w, ok := impl.ParseWalk(s); ok || r != (impl.Road{}) || len(w) != 0 {
		t.Errorf("ParseWalk(%s) = %v, %v, %v", short(s), r, w, ok)
	}
}

func TestParseWalkOfOtherTexts(t *testing.T) {
	others := []string{
		"", " ", "  ", "line", "line ", "line 5", "line 5 ", "line  5 0", "line 5  0", " line 5 0", "line 5 0 ", "line 5 0 1", "line\t5 0", "line 5\t0", "line 5 0\n", "line5 0", "line 50",
		"Line 5 0", "LINE 5 0", "lin 5 0", "lines 5 0", "rin 5 0", "rings 5 0", "road 5 0", "5 0", " 5 0", "line 5 0,", "line 5 ,0", "line 5 ,", "line 5 0,,1", "line 5 0, 1", "line 5 0 ,1",
		"line 5 00", "line 5 01", "line 05 0", "line +5 0", "line 5 +0", "line 5 -0", "line -5 0", "line 5 -1", "line 5 0,-1", "line 5 +1", "line 5.0 0", "line 5 0.0", "line 5 a", "line a 0", "line 0x5 0", "line  0",
		"line 5 5", "line 5 0,2", "line 5 0,4", "line 5 4,5", "line 1 0", "line 0 0", "line 25 0", "ring 2 0", "ring 2 0,1", "ring 25 0", "ring 1 0", "line 2 0,2", "ring 3 0,3", "ring 5 0,2", "line 999999 0", "line 9223372036854775809 0", "line 18446744073709551621 0",
		"line 5 18446744073709551616", "ring 5;0", "line 5 0;1", "ring 5 0,1#1", "line 5 " + strings.Repeat("0,", 61) + "0", "line 5 " + strings.Repeat("0", 5000), "line 5 0" + strings.Repeat(",0", 5000), strings.Repeat("line ", 5000),
	}
	for _, s := range others {
		wantNoWalkText(t, s)
	}
	stays := "line 5 0" + strings.Repeat(",0", 60)
	_, w, ok := impl.ParseWalk(stays)
	wantList(t, "ParseWalk", w, ok, make([]int, 61))
	wantNoWalkText(t, stays+",0")
}

var walkShape = regexp.MustCompile(`^(line|ring) ([1-9][0-9]?) ((?:0|[1-9][0-9]?)(?:,(?:0|[1-9][0-9]?))*)$`)

// readWalk is a reader of walks of its own; it returns false for other texts.
func readWalk(s string) (impl.Road, []int, bool) {
	m := walkShape.FindStringSubmatch(s)
	if m == nil {
		return impl.Road{}, nil, false
	}
	size, _ := strconv.Atoi(m[2])
	r := impl.Road{Size: size, Ring: m[1] == "ring"}
	w := []int{}
	for _, part := range strings.Split(m[3], ",") {
		p, _ := strconv.Atoi(part)
		w = append(w, p)
	}
	if size > 24 || size < 2 || r.Ring && size < 3 || !isWalkByWords(r, w) {
		return impl.Road{}, nil, false
	}
	return r, w, true
}

// TestParseWalkOfChangedTexts changes, inserts and removes each byte of texts of walks.
func TestParseWalkOfChangedTexts(t *testing.T) {
	for _, s := range []string{"line 2 0,1,1", "ring 3 0,2,1", "line 24 9,10,11", "ring 12 0,11,10", "line 5 0", "ring 10 9,0,1,1"} {
		for i := range len(s) + 1 {
			for b := range 256 {
				checkParse(t, s[:i]+string([]byte{byte(b)})+s[i:])
				if i < len(s) {
					checkParse(t, s[:i]+string([]byte{byte(b)})+s[i+1:])
				}
			}
			if i < len(s) {
				checkParse(t, s[:i]+s[i+1:])
			}
			checkParse(t, s[:i])
			checkParse(t, s[i:])
		}
	}
}

func checkParse(t *testing.T, s string) {
	t.Helper()
	road, walk, ok := readWalk(s)
	if !ok {
		wantNoWalkText(t, s)
		return
	}
	r, w, parsed := impl.ParseWalk(s)
	if r != road {
		t.Errorf("ParseWalk(%q) = %v", s, r)
	}
	wantList(t, "ParseWalk", w, parsed, walk)
}

// TestWalksAreKeptApart changes results and looks whether arguments or later results have changed with them.
func TestWalksAreKeptApart(t *testing.T) {
	r := ring(6)
	long := []int{5, 0, 1, 1, 0, 5, 4, 3, 77, 88}
	a, b := long[1:5], long[5:8]
	calls := map[string]func() ([]int, bool){
		"FirstVisits": func() ([]int, bool) { return impl.FirstVisits(r, a) }, "TurnTimes": func() ([]int, bool) { return impl.TurnTimes(r, a) },
		"MirrorWalk": func() ([]int, bool) { return impl.MirrorWalk(r, a) }, "ShiftWalk": func() ([]int, bool) { return impl.ShiftWalk(r, a, 0) },
		"BackWalk": func() ([]int, bool) { return impl.BackWalk(r, a) }, "BackWalk of one": func() ([]int, bool) { return impl.BackWalk(r, a[:1]) },
		"JoinWalks": func() ([]int, bool) { return impl.JoinWalks(r, long[:2], long[1:4]) }, "JoinWalks with one": func() ([]int, bool) { return impl.JoinWalks(r, long[:2], long[1:2]) },
		"JoinWalks of one": func() ([]int, bool) { return impl.JoinWalks(r, long[1:2], a) },
		"WaitWalk":         func() ([]int, bool) { return impl.WaitWalk(r, a, 1, 2) }, "WaitWalk of none": func() ([]int, bool) { return impl.WaitWalk(r, a, 3, 0) },
		"MeetTimes": func() ([]int, bool) { return impl.MeetTimes(r, a, a) }, "PassTimes": func() ([]int, bool) { return impl.PassTimes(r, long[0:2], []int{0, 5}) },
		"NeighborsOn": func() ([]int, bool) { return impl.NeighborsOn(r, 3) }, "StraightWalk": func() ([]int, bool) { return impl.StraightWalk(r, 1, 4) },
		"SweepWalk": func() ([]int, bool) { return impl.SweepWalk(r, 2) },
		"ParseWalk": func() ([]int, bool) { _, w, ok := impl.ParseWalk("ring 6 0,1,2"); return w, ok },
	}
	kept := slices.Clone(long)
	for name, call := range calls {
		first, ok := call()
		want := slices.Clone(first)
		if !ok || len(first) == 0 {
			t.Error(name, "has no result", first, ok)
		}
		for i := range first {
			first[i] = -9
		}
		_ = append(first, -8)
		_ = append(first[:0], -7)
		second, ok := call()
		wantList(t, name, second, ok, want)
		if !slices.Equal(long, kept) {
			t.Fatal(name, "changes its argument to", long)
		}
	}
	impl.TourTime(r, 0, b)
	impl.IsWalk(r, b)
	impl.StepCount(r, b)
	impl.CoverTime(r, b)
	impl.PlaceAt(r, b, 1)
	impl.WalkText(r, b)
	if !slices.Equal(long, kept) {
		t.Error("an argument is changed to", long)
	}
}
