package tests

import (
	"math"
	"math/bits"
	"reflect"
	"slices"
	"testing"

	"loop.example/g01148/impl"
)

// watch returns sensors, each one given by its place and its Reach.
func watch(pairs ...[2]int) []impl.Sensor {
	list := []impl.Sensor{}
	for _, pair := range pairs {
		list = append(list, impl.Sensor{At: pair[0], Reach: pair[1]})
	}
	return list
}

// seenByWords asks each sensor for each place.
func seenByWords(r impl.Road, list []impl.Sensor) []int {
	seen := make([]int, r.Size)
	for p := range seen {
		for _, s := range list {
			if distance(s.At, p) <= s.Reach {
				seen[p]++
			}
		}
	}
	return seen
}

func guardsByWords(r impl.Road, list []impl.Sensor) bool {
	return !slices.Contains(seenByWords(r, list), 0)
}

// runsByWords takes all stretches of a line, and returns those without a seen place that no unseen one is beside.
func runsByWords(r impl.Road, list []impl.Sensor) [][2]int {
	seen := append(append([]int{1}, seenByWords(r, list)...), 1)
	runs := [][2]int{}
	for first := range r.Size {
		for last := first; last < r.Size; last++ {
			if slices.Max(seen[first+1:last+2]) == 0 && seen[first] > 0 && seen[last+2] > 0 {
				runs = append(runs, [2]int{first, last})
			}
		}
	}
	return runs
}

// strengthByWords takes away all sets of sensors.
func strengthByWords(r impl.Road, list []impl.Sensor) int {
	if !guardsByWords(r, list) {
		return 0
	}
	least := len(list)
	for taken := range listsBelow(2, len(list)) {
		others := []impl.Sensor{}
		for i, n := range taken {
			if n == 0 {
				others = append(others, list[i])
			}
		}
		if !guardsByWords(r, others) {
			least = min(least, len(list)-len(others))
		}
	}
	return least
}

func spareByWords(r impl.Road, list []impl.Sensor) []int {
	spare := []int{}
	for i := range list {
		if guardsByWords(r, slices.Delete(slices.Clone(list), i, i+1)) {
			spare = append(spare, i)
		}
	}
	return spare
}

// movedByWords returns the sensors at other places, the greatest move and the sum of all moves.
func movedByWords(list []impl.Sensor, places []int) ([]impl.Sensor, int, int) {
	moved, greatest, sum := []impl.Sensor{}, 0, 0
	for i, s := range list {
		moved = append(moved, impl.Sensor{At: places[i], Reach: s.Reach})
		greatest = max(greatest, distance(s.At, places[i]))
		sum += distance(s.At, places[i])
	}
	return moved, greatest, sum
}

// isInOrder looks at each two sensors, before and behind moves.
func isInOrder(list []impl.Sensor, places []int) bool {
	for i := range list {
		for j := range list {
			first := list[i].At < list[j].At || list[i].At == list[j].At && i < j
			if first && places[i] > places[j] {
				return false
			}
		}
	}
	return true
}

// cheapest is the least move and the least sum of moves with which sensors guard a line, the least move with which they do so in order, and whether they can at all.
type cheapest struct {
	move, sum, inOrder int
	ok                 bool
}

// moveInAllWays takes all lists of places to which sensors can be moved.
func moveInAllWays(r impl.Road, list []impl.Sensor) cheapest {
	best := cheapest{move: math.MaxInt, sum: math.MaxInt, inOrder: math.MaxInt}
	for places := range listsBelow(r.Size, len(list)) {
		moved, greatest, sum := movedByWords(list, places)
		if !guardsByWords(r, moved) {
			continue
		}
		best.ok = true
		best.move, best.sum = min(best.move, greatest), min(best.sum, sum)
		if isInOrder(list, places) {
			best.inOrder = min(best.inOrder, greatest)
		}
	}
	if !best.ok {
		return cheapest{}
	}
	return best
}

// watched is the set of places that some sensors see, and where the last one of them stands.
type watched struct {
	set, last int
}

// costsOfSets moves the sensors one by one, from a place on that is told by those before, and returns what it costs at least that they see all places, -1 if they cannot.
func costsOfSets(r impl.Road, list []impl.Sensor, behind func(before int, move int) int, inOrder bool) int {
	all, spans := 1<<r.Size-1, 0
	for _, s := range list {
		spans += 2*s.Reach + 1
	}
	costs := map[watched]int{{}: 0}
	for _, s := range list {
		spans -= 2*s.Reach + 1
		next := map[watched]int{}
		for before, cost := range costs {
			for p := before.last; p < r.Size; p++ {
				then := watched{set: before.set | (1<<min(p+s.Reach+1, r.Size) - 1<<max(p-s.Reach, 0))}
				if inOrder {
					then.last = p
				}
				after := behind(cost, distance(s.At, p))
				if known, ok := next[then]; bits.OnesCount(uint(all&^then.set)) <= spans && (!ok || after < known) {
					next[then] = after
				}
			}
		}
		costs = next
	}
	least := -1
	for at, cost := range costs {
		if at.set == all && (least < 0 || cost < least) {
			least = cost
		}
	}
	return least
}

func greaterOf(a int, b int) int { return max(a, b) }

func addedUp(a int, b int) int { return a + b }

// moveBySets keeps all sets of places that sensors can see, for lists that can be moved in too many ways.
func moveBySets(r impl.Road, list []impl.Sensor) cheapest {
	best := cheapest{move: costsOfSets(r, list, greaterOf, false), ok: true}
	if best.move < 0 {
		return cheapest{}
	}
	best.sum = costsOfSets(r, list, addedUp, false)
	ordered := slices.Clone(list)
	slices.SortStableFunc(ordered, func(a impl.Sensor, b impl.Sensor) int { return a.At - b.At })
	best.inOrder = costsOfSets(r, ordered, greaterOf, true)
	return best
}

// allWatches yields all lists of n sensors on a line with Reaches up to most.
func allWatches(r impl.Road, n int, most int) func(func([]impl.Sensor) bool) {
	return func(yield func([]impl.Sensor) bool) {
		for kinds := range listsBelow(r.Size*(most+1), n) {
			list := []impl.Sensor{}
			for _, kind := range kinds {
				list = append(list, impl.Sensor{At: kind % r.Size, Reach: kind / r.Size})
			}
			if !yield(list) {
				return
			}
		}
	}
}

// someWatches returns lists of 0..6 sensors at places of all parts of a line, also at the same ones, with Reaches up to most, by fixed rules.
func someWatches(r impl.Road, rules int, most int) [][]impl.Sensor {
	watches := [][]impl.Sensor{}
	for rule := range rules {
		list := []impl.Sensor{}
		for i := range rule % 7 {
			list = append(list, impl.Sensor{At: (rule*5 + i*i*3 + i*(rule/7)) % r.Size, Reach: (rule*3 + i*(rule/2+2) + i*i) % (most + 1)})
		}
		watches = append(watches, list)
	}
	return watches
}

// wrongSensors returns what is no sensor on a line.
func wrongSensors(r impl.Road) []impl.Sensor {
	all := []impl.Sensor{}
	for _, p := range wrongPlaces(r) {
		if p < 0 || p >= r.Size {
			all = append(all, impl.Sensor{At: p}, impl.Sensor{At: p, Reach: 12})
		}
	}
	for _, n := range []int{-1, 13, 14, -12, math.MaxInt, math.MaxInt - 1, math.MinInt, math.MinInt + 1} {
		all = append(all, impl.Sensor{Reach: n}, impl.Sensor{At: 1, Reach: n}, impl.Sensor{At: r.Size - 1, Reach: n})
	}
	return all
}

// wrongWatches returns what is no list of sensors on a line.
func wrongWatches(r impl.Road) [][]impl.Sensor {
	good := impl.Sensor{At: 1, Reach: 12}
	watches := [][]impl.Sensor{slices.Repeat([]impl.Sensor{good}, 7), slices.Repeat([]impl.Sensor{{}}, 8), make([]impl.Sensor, 100000)}
	for _, s := range wrongSensors(r) {
		watches = append(watches, []impl.Sensor{s}, []impl.Sensor{s, good}, []impl.Sensor{good, s}, []impl.Sensor{s, s}, []impl.Sensor{good, good, good, good, good, s})
	}
	return watches
}

var wrongMoveLimits = []int{-1, -2, 25, 26, -24, 100, math.MaxInt, math.MaxInt - 1, math.MinInt, math.MinInt + 1}

func wantAreSensors(t *testing.T, r impl.Road, list []impl.Sensor, want bool, fine bool) {
	t.Helper()
	if are, ok := impl.AreSensors(r, list); are != want || ok != fine {
		t.Errorf("AreSensors(%v, %.50v) = %v, %v; want %v, %v", r, list, are, ok, want, fine)
	}
}

func wantCanMove(t *testing.T, name string, call func(impl.Road, []impl.Sensor, int) (bool, bool), r impl.Road, list []impl.Sensor, d int, want bool) {
	t.Helper()
	if can, ok := call(r, list, d); can != want || !ok {
		t.Errorf("%s(%v, %v, %d) = %v, %v; want %v, true", name, r, list, d, can, ok, want)
	}
}

// wantCheapest holds all that is told of moves against what they cost at least.
func wantCheapest(t *testing.T, r impl.Road, list []impl.Sensor, want cheapest) {
	t.Helper()
	move, ok := impl.LeastMove(r, list)
	if ok != want.ok || move != want.move {
		t.Errorf("LeastMove(%v, %v) = %d, %v; want %d, %v", r, list, move, ok, want.move, want.ok)
	}
	sum, ok := impl.LeastSum(r, list)
	if ok != want.ok || sum != want.sum {
		t.Errorf("LeastSum(%v, %v) = %d, %v; want %d, %v", r, list, sum, ok, want.sum, want.ok)
	}
	for _, d := range []int{0, want.move - 1, want.move, want.inOrder - 1, want.inOrder, 24} {
		if d >= 0 {
			wantCanMove(t, "CanGuard", impl.CanGuard, r, list, d, want.ok && d >= want.move)
			wantCanMove(t, "CanInOrder", impl.CanInOrder, r, list, d, want.ok && d >= want.inOrder)
		}
	}
}

// checkGuards looks whether what the chapter guarantees of moves is so.
func checkGuards(t *testing.T, r impl.Road, list []impl.Sensor) {
	t.Helper()
	move, can := impl.LeastMove(r, list)
	sum, ok := impl.LeastSum(r, list)
	spans := 0
	for _, s := range list {
		spans += 2*s.Reach + 1
	}
	guards := guardsByWords(r, list)
	if can != ok || can != (spans >= r.Size) || move > sum || sum > len(list)*move || can && (move == 0) != guards || can && (sum == 0) != guards {
		t.Errorf("%v, %v: LeastMove %d, %v; LeastSum %d, %v", r, list, move, can, sum, ok)
	}
	mirror, _ := impl.MirrorSensors(r, list)
	mirrorMove, mirrorCan := impl.LeastMove(r, mirror)
	mirrorSum, mirrorOK := impl.LeastSum(r, mirror)
	if mirrorMove != move || mirrorSum != sum || mirrorCan != can || mirrorOK != ok {
		t.Errorf("%v, %v: LeastMove %d, LeastSum %d; mirrored %d, %d", r, list, move, sum, mirrorMove, mirrorSum)
	}
	ordered := false
	for d := range 25 {
		wantCanMove(t, "CanGuard", impl.CanGuard, r, list, d, can && d >= move)
		inOrder, ok := impl.CanInOrder(r, list, d)
		if !ok || inOrder && !(can && d >= move) || ordered && !inOrder || !inOrder && can && d >= r.Size-1 {
			t.Errorf("CanInOrder(%v, %v, %d) = %v, %v; LeastMove %d, %v", r, list, d, inOrder, ok, move, can)
		}
		ordered = inOrder
	}
}

// checkSeen holds what is told of sensors where they stand against asking each one.
func checkSeen(t *testing.T, r impl.Road, list []impl.Sensor) {
	t.Helper()
	wantAreSensors(t, r, list, true, true)
	seen, ok := impl.SeenBy(r, list)
	wantList(t, "SeenBy", seen, ok, seenByWords(r, list))
	wantRuns(t, r, list, runsByWords(r, list))
	strength, ok := impl.StrengthOf(r, list)
	wantNumber(t, "StrengthOf", strength, ok, strengthByWords(r, list))
	if ok && strength != slices.Min(seen) {
		t.Errorf("StrengthOf(%v, %v) = %d; the sensors see %v", r, list, strength, seen)
	}
	spare, ok := impl.SpareSensors(r, list)
	wantList(t, "SpareSensors", spare, ok, spareByWords(r, list))
	checkMirrorSensors(t, r, list)
}

// checkMirrorSensors looks whether mirrored sensors see the mirrored places, and are the same when they are mirrored twice.
func checkMirrorSensors(t *testing.T, r impl.Road, list []impl.Sensor) {
	t.Helper()
	mirror, ok := impl.MirrorSensors(r, list)
	want := []impl.Sensor{}
	for _, s := range list {
		want = append(want, impl.Sensor{At: r.Size - 1 - s.At, Reach: s.Reach})
	}
	wantSensors(t, "MirrorSensors", mirror, ok, want)
	again, ok := impl.MirrorSensors(r, mirror)
	wantSensors(t, "MirrorSensors twice", again, ok, list)
	seen := seenByWords(r, list)
	slices.Reverse(seen)
	mirrored, ok := impl.SeenBy(r, mirror)
	wantList(t, "SeenBy of mirrored sensors", mirrored, ok, seen)
}

func wantSensors(t *testing.T, what string, got []impl.Sensor, ok bool, want []impl.Sensor) {
	t.Helper()
	if !ok || !slices.Equal(got, want) {
		t.Errorf("%s = %v, %v; want %v, true", what, got, ok, want)
	}
}

func wantRuns(t *testing.T, r impl.Road, list []impl.Sensor, want [][2]int) {
	t.Helper()
	if runs, ok := impl.UnseenRuns(r, list); !ok || !slices.Equal(runs, want) {
		t.Errorf("UnseenRuns(%v, %v) = %v, %v; want %v, true", r, list, runs, ok, want)
	}
}

func wantMoved(t *testing.T, r impl.Road, list []impl.Sensor, places []int, want []impl.Sensor, greatest int, sum int) {
	t.Helper()
	if moved, most, all, ok := impl.MoveSensors(r, list, places); !ok || most != greatest || all != sum || !slices.Equal(moved, want) {
		t.Errorf("MoveSensors(%v, %v, %v) = %v, %d, %d, %v; want %v, %d, %d, true", r, list, places, moved, most, all, ok, want, greatest, sum)
	}
}

func wantNotMoved(t *testing.T, r impl.Road, list []impl.Sensor, places []int) {
	t.Helper()
	if moved, most, all, ok := impl.MoveSensors(r, list, places); ok || most != 0 || all != 0 || len(moved) != 0 {
		t.Errorf("MoveSensors(%v, %.50v, %.50v) = %v, %d, %d, %v; want none, 0, 0, false", r, list, places, moved, most, all, ok)
	}
}

// checkNoSensors takes a road or a list of sensors that is not valid.
func checkNoSensors(t *testing.T, r impl.Road, list []impl.Sensor) {
	t.Helper()
	for name, call := range map[string]func(impl.Road, []impl.Sensor) ([]int, bool){"SeenBy": impl.SeenBy, "SpareSensors": impl.SpareSensors} {
		got, ok := call(r, list)
		wantNoList(t, name, got, ok)
	}
	for name, call := range map[string]func(impl.Road, []impl.Sensor) (int, bool){"StrengthOf": impl.StrengthOf, "LeastMove": impl.LeastMove, "LeastSum": impl.LeastSum} {
		got, ok := call(r, list)
		wantNoNumber(t, name, got, ok)
	}
	if runs, ok := impl.UnseenRuns(r, list); ok || len(runs) != 0 {
		t.Errorf("UnseenRuns(%v, %.50v) = %v, %v", r, list, runs, ok)
	}
	if mirror, ok := impl.MirrorSensors(r, list); ok || len(mirror) != 0 {
		t.Errorf("MirrorSensors(%v, %.50v) = %v, %v", r, list, mirror, ok)
	}
	for _, places := range [][]int{nil, {0}, {0, 1}, make([]int, len(list)), slices.Repeat([]int{1}, len(list))} {
		wantNotMoved(t, r, list, places)
	}
	for _, d := range []int{0, 1, 24, -1, 25} {
		checkNoMove(t, r, list, d)
	}
}

// checkNoMove takes a road, a list of sensors or a number that is not valid.
func checkNoMove(t *testing.T, r impl.Road, list []impl.Sensor, d int) {
	t.Helper()
	for name, call := range map[string]func(impl.Road, []impl.Sensor, int) (bool, bool){"CanGuard": impl.CanGuard, "CanInOrder": impl.CanInOrder} {
		if can, ok := call(r, list, d); can || ok {
			t.Errorf("%s(%v, %.50v, %d) = %v, %v; want false, false", name, r, list, d, can, ok)
		}
	}
}

func TestLimitsOfFences(t *testing.T) {
	if impl.MaxSensors != 6 || impl.MaxSpan != 12 {
		t.Error("limits", impl.MaxSensors, impl.MaxSpan)
	}
}

func TestAreSensors(t *testing.T) {
	for size := 2; size <= 24; size++ {
		r := line(size)
		for _, list := range someWatches(r, 40, 12) {
			wantAreSensors(t, r, list, true, true)
			wantAreSensors(t, ring(size), list, false, false)
		}
		for n := range 10 {
			wantAreSensors(t, r, slices.Repeat([]impl.Sensor{{At: size - 1, Reach: 12}}, n), n <= 6, true)
		}
		for n := -3; n <= 40; n++ {
			for _, s := range []impl.Sensor{{}, {At: 1, Reach: 1}, {At: size - 1, Reach: 12}} {
				wantAreSensors(t, r, []impl.Sensor{{At: n, Reach: s.Reach}}, n >= 0 && n < size, true)
				wantAreSensors(t, r, []impl.Sensor{s, {At: s.At, Reach: n}}, n >= 0 && n <= 12, true)
			}
		}
		wantAreSensors(t, r, nil, true, true)
		for _, list := range wrongWatches(r) {
			wantAreSensors(t, r, list, false, true)
		}
	}
	for _, r := range slices.Concat(wrongRoads, []impl.Road{ring(3), ring(7), ring(24)}) {
		for _, list := range [][]impl.Sensor{nil, {}, {{}}, {{At: 1, Reach: 3}}, {{At: -1}}, make([]impl.Sensor, 7)} {
			wantAreSensors(t, r, list, false, false)
		}
	}
}

func TestSeenKnown(t *testing.T) {
	known := []struct {
		name     string
		size     int
		list     []impl.Sensor
		seen     []int
		runs     [][2]int
		strength int
		spare    []int
	}{
		{"no sensors", 3, nil, []int{0, 0, 0}, [][2]int{{0, 2}}, 0, nil}, {"no sensors on two places", 2, watch(), []int{0, 0}, [][2]int{{0, 1}}, 0, nil}, {"one sees its own place", 3, watch([2]int{1, 0}), []int{0, 1, 0}, [][2]int{{0, 0}, {2, 2}}, 0, nil}, {"one sees all", 3, watch([2]int{1, 1}), []int{1, 1, 1}, nil, 1, nil},
		{"farther than the line is long", 3, watch([2]int{0, 12}), []int{1, 1, 1}, nil, 1, nil}, {"just to the other end", 3, watch([2]int{2, 2}), []int{1, 1, 1}, nil, 1, nil}, {"not to the other end", 4, watch([2]int{3, 2}), []int{0, 1, 1, 1}, [][2]int{{0, 0}}, 0, nil}, {"on one of two places", 2, watch([2]int{1, 0}), []int{0, 1}, [][2]int{{0, 0}}, 0, nil},
		{"at both ends", 6, watch([2]int{0, 1}, [2]int{5, 1}), []int{1, 1, 0, 0, 1, 1}, [][2]int{{2, 3}}, 0, nil}, {"touching", 6, watch([2]int{1, 1}, [2]int{4, 1}), []int{1, 1, 1, 1, 1, 1}, nil, 1, nil}, {"one place between", 7, watch([2]int{1, 1}, [2]int{5, 1}), []int{1, 1, 1, 0, 1, 1, 1}, [][2]int{{3, 3}}, 0, nil}, {"meeting", 5, watch([2]int{3, 1}, [2]int{1, 1}), []int{1, 1, 2, 1, 1}, nil, 1, nil},
		{"at the same place", 3, watch([2]int{1, 1}, [2]int{1, 1}), []int{2, 2, 2}, nil, 2, []int{0, 1}}, {"at the same place, one sees less", 3, watch([2]int{1, 0}, [2]int{1, 1}), []int{1, 2, 1}, nil, 1, []int{0}}, {"three runs", 9, watch([2]int{6, 0}, [2]int{2, 0}), []int{0, 0, 1, 0, 0, 0, 1, 0, 0}, [][2]int{{0, 1}, {3, 5}, {7, 8}}, 0, nil},
		{"all spare", 2, watch([2]int{0, 12}, [2]int{1, 12}, [2]int{1, 1}, [2]int{0, 1}, [2]int{0, 2}, [2]int{1, 3}), []int{6, 6}, nil, 6, []int{0, 1, 2, 3, 4, 5}}, {"spare, but not both", 5, watch([2]int{0, 2}, [2]int{2, 1}, [2]int{2, 1}, [2]int{4, 1}), []int{1, 3, 3, 3, 1}, nil, 1, []int{1, 2}}, {"none guards without the others", 6, watch([2]int{0, 0}, [2]int{1, 0}, [2]int{2, 0}, [2]int{3, 0}, [2]int{4, 0}, [2]int{5, 0}), []int{1, 1, 1, 1, 1, 1}, nil, 1, nil},
		{"as far as may be", 24, watch([2]int{11, 12}), slices.Repeat([]int{1}, 24), nil, 1, nil}, {"not quite", 24, watch([2]int{10, 12}), append(slices.Repeat([]int{1}, 23), 0), [][2]int{{23, 23}}, 0, nil}, {"the first one does without the others", 24, watch([2]int{12, 12}, [2]int{0, 0}, [2]int{23, 12}), slices.Concat([]int{2}, slices.Repeat([]int{1}, 10), slices.Repeat([]int{2}, 13)), nil, 1, []int{1, 2}},
	}
	for _, k := range known {
		t.Run(k.name, func(t *testing.T) {
			r := line(k.size)
			seen, ok := impl.SeenBy(r, k.list)
			wantList(t, "SeenBy", seen, ok, k.seen)
			wantRuns(t, r, k.list, k.runs)
			strength, ok := impl.StrengthOf(r, k.list)
			wantNumber(t, "StrengthOf", strength, ok, k.strength)
			spare, ok := impl.SpareSensors(r, k.list)
			wantList(t, "SpareSensors", spare, ok, k.spare)
			checkSeen(t, r, k.list)
		})
	}
}

// TestSeen takes all lists of few sensors on short lines, and some on all lines.
func TestSeen(t *testing.T) {
	for size := 2; size <= 5; size++ {
		for n := range 4 {
			for list := range allWatches(line(size), n, 2) {
				checkSeen(t, line(size), list)
			}
		}
	}
	for size := 2; size <= 24; size++ {
		for _, most := range []int{0, 1, 3, 6, 12} {
			for _, list := range someWatches(line(size), 140, most) {
				checkSeen(t, line(size), list)
			}
		}
		for p := range size {
			for reach := range 13 {
				checkSeen(t, line(size), watch([2]int{p, reach}))
			}
		}
	}
}

func TestMirrorSensorsKnown(t *testing.T) {
	got, ok := impl.MirrorSensors(line(8), watch([2]int{1, 1}, [2]int{7, 12}, [2]int{0, 0}, [2]int{1, 3}))
	wantSensors(t, "MirrorSensors", got, ok, watch([2]int{6, 1}, [2]int{0, 12}, [2]int{7, 0}, [2]int{6, 3}))
	got, ok = impl.MirrorSensors(line(3), watch([2]int{1, 0}))
	wantSensors(t, "MirrorSensors in the middle", got, ok, watch([2]int{1, 0}))
	got, ok = impl.MirrorSensors(line(2), nil)
	wantSensors(t, "MirrorSensors of none", got, ok, nil)
}

func TestMoveSensorsKnown(t *testing.T) {
	r, list := line(8), watch([2]int{0, 1}, [2]int{7, 12}, [2]int{3, 0})
	known := []struct {
		name          string
		list          []impl.Sensor
		places        []int
		moved         []impl.Sensor
		greatest, sum int
	}{
		{"each one elsewhere", list, []int{2, 6, 6}, watch([2]int{2, 1}, [2]int{6, 12}, [2]int{6, 0}), 3, 6}, {"from end to end", list, []int{7, 0, 3}, watch([2]int{7, 1}, [2]int{0, 12}, [2]int{3, 0}), 7, 14}, {"to where they are", list, []int{0, 7, 3}, list, 0, 0},
		{"to the same place", list, []int{3, 3, 3}, watch([2]int{3, 1}, [2]int{3, 12}, [2]int{3, 0}), 4, 7}, {"no sensors", nil, nil, nil, 0, 0}, {"no sensors to no places", []impl.Sensor{}, []int{}, nil, 0, 0}, {"apart", watch([2]int{3, 1}, [2]int{3, 1}), []int{5, 2}, watch([2]int{5, 1}, [2]int{2, 1}), 2, 3},
	}
	for _, k := range known {
		t.Run(k.name, func(t *testing.T) {
			wantMoved(t, r, k.list, k.places, k.moved, k.greatest, k.sum)
		})
	}
	for _, places := range [][]int{nil, {}, {0}, {0, 7}, {0, 7, 3, 3}, {0, 7, 3, -1}, make([]int, 6), make([]int, 100000)} {
		wantNotMoved(t, r, list, places)
	}
	wantNotMoved(t, r, nil, []int{0})
	wantNotMoved(t, r, []impl.Sensor{}, []int{3, 4})
}

// TestMoveSensors moves sensors to all places of short lines, and to some of long ones.
func TestMoveSensors(t *testing.T) {
	check := func(r impl.Road, list []impl.Sensor, places []int) {
		moved, greatest, sum := movedByWords(list, places)
		wantMoved(t, r, list, places, moved, greatest, sum)
	}
	for size := 2; size <= 4; size++ {
		for n := range 3 {
			for list := range allWatches(line(size), n, 1) {
				for places := range listsBelow(size, n) {
					check(line(size), list, places)
				}
			}
		}
	}
	for size := 2; size <= 24; size++ {
		r := line(size)
		for rule, list := range someWatches(r, 70, 12) {
			places := []int{}
			for i := range list {
				places = append(places, (rule*7+i*(rule+3))%size)
			}
			check(r, list, places)
			for i := range list {
				for _, p := range wrongPlaces(r) {
					if p < 0 || p >= size {
						wrong := slices.Clone(places)
						wrong[i] = p
						wantNotMoved(t, r, list, wrong)
					}
				}
			}
			wantNotMoved(t, r, list, append(places, 0))
			if len(list) > 0 {
				wantNotMoved(t, r, list, places[1:])
				wantNotMoved(t, r, list, nil)
			}
		}
	}
}

func TestCheapestKnown(t *testing.T) {
	known := []struct {
		name string
		size int
		list []impl.Sensor
		want cheapest
	}{
		{"no sensors", 5, nil, cheapest{}}, {"no sensors on two places", 2, watch(), cheapest{}}, {"one to the middle", 5, watch([2]int{0, 2}), cheapest{2, 2, 2, true}}, {"one in the middle", 5, watch([2]int{2, 2}), cheapest{0, 0, 0, true}}, {"one at the other end", 5, watch([2]int{4, 3}), cheapest{1, 1, 1, true}}, {"one sees too little", 6, watch([2]int{3, 2}), cheapest{}}, {"farther than the line is long", 5, watch([2]int{0, 12}), cheapest{0, 0, 0, true}},
		{"as it is in the given test", 8, watch([2]int{0, 1}, [2]int{0, 1}, [2]int{0, 1}), cheapest{6, 9, 6, true}}, {"too few", 8, watch([2]int{1, 1}, [2]int{6, 1}), cheapest{}}, {"they guard already", 6, watch([2]int{4, 1}, [2]int{1, 1}), cheapest{0, 0, 0, true}}, {"they guard already, and one is spare", 5, watch([2]int{0, 12}, [2]int{4, 0}), cheapest{0, 0, 0, true}}, {"just enough", 6, watch([2]int{5, 1}, [2]int{5, 1}), cheapest{4, 5, 4, true}}, {"one place too few", 7, watch([2]int{5, 1}, [2]int{5, 1}), cheapest{}},
		{"apart from the same place", 4, slices.Repeat(watch([2]int{1, 0}), 4), cheapest{2, 4, 2, true}}, {"not in order from the same place", 6, watch([2]int{3, 0}, [2]int{3, 2}), cheapest{2, 3, 3, true}}, {"the other order of numbers", 6, watch([2]int{3, 2}, [2]int{3, 0}), cheapest{2, 3, 2, true}}, {"not in order", 6, watch([2]int{3, 0}, [2]int{4, 2}), cheapest{2, 4, 3, true}}, {"not in order, and numbered from behind", 6, watch([2]int{4, 2}, [2]int{3, 0}), cheapest{2, 4, 3, true}},
		{"the least move has a greater sum", 5, watch([2]int{0, 1}, [2]int{0, 1}, [2]int{2, 0}), cheapest{2, 3, 2, true}}, {"the least sum has a greater move", 6, watch([2]int{0, 0}, [2]int{0, 2}, [2]int{3, 0}), cheapest{2, 3, 2, true}}, {"across the middle", 7, watch([2]int{0, 1}, [2]int{1, 1}, [2]int{2, 0}), cheapest{4, 6, 4, true}}, {"the spare one stays", 3, watch([2]int{0, 0}, [2]int{0, 1}), cheapest{1, 1, 1, true}}, {"both go one step", 5, watch([2]int{0, 1}, [2]int{4, 0}, [2]int{4, 0}), cheapest{1, 2, 1, true}},
		{"two on two places", 2, watch([2]int{1, 0}, [2]int{1, 0}), cheapest{1, 1, 1, true}}, {"one on two places", 2, watch([2]int{1, 0}), cheapest{}}, {"just enough on the longest line", 24, slices.Repeat(watch([2]int{0, 1}, [2]int{23, 2}), 3), cheapest{12, 33, 12, true}}, {"one on the longest line", 24, watch([2]int{0, 12}), cheapest{11, 11, 11, true}}, {"as many as may be, from one end", 24, slices.Repeat(watch([2]int{23, 2}), 6), cheapest{21, 55, 21, true}}, {"as many as may be, one place too few", 24, append(slices.Repeat(watch([2]int{0, 1}), 5), impl.Sensor{At: 9, Reach: 3}), cheapest{}},
	}
	for _, k := range known {
		t.Run(k.name, func(t *testing.T) {
			wantCheapest(t, line(k.size), k.list, k.want)
			if got := moveBySets(line(k.size), k.list); got != k.want {
				t.Errorf("by sets: %v; want %v", got, k.want)
			}
			checkGuards(t, line(k.size), k.list)
			checkSeen(t, line(k.size), k.list)
		})
	}
}

// TestMovesInAllWays tries all moves of sensors: of all lists of few ones on short lines, and of some lists of more.
func TestMovesInAllWays(t *testing.T) {
	check := func(r impl.Road, list []impl.Sensor) {
		want := moveInAllWays(r, list)
		wantCheapest(t, r, list, want)
		if got := moveBySets(r, list); got != want {
			t.Errorf("%v, %v by sets: %v; want %v", r, list, got, want)
		}
	}
	for _, k := range []struct{ size, sensors, reach int }{{2, 4, 1}, {3, 3, 3}, {4, 3, 2}, {5, 3, 2}, {6, 2, 5}, {7, 2, 4}, {4, 4, 1}, {8, 1, 12}} {
		for n := range k.sensors + 1 {
			for list := range allWatches(line(k.size), n, k.reach) {
				check(line(k.size), list)
			}
		}
	}
	for size := 4; size <= 6; size++ {
		for _, list := range someWatches(line(size), 42, 2) {
			check(line(size), list)
		}
	}
	for size := 7; size <= 11; size++ {
		for _, list := range someWatches(line(size), 210, 3) {
			if len(list) <= 4 {
				check(line(size), list)
			}
		}
	}
}

// TestMovesOnLongLines takes lists of up to MaxSensors sensors on all lines.
func TestMovesOnLongLines(t *testing.T) {
	for size := 2; size <= 24; size++ {
		for _, most := range []int{1, 2, 4, 12} {
			for rule, list := range someWatches(line(size), 420, most) {
				if rule%5 == size%5 && (size < 16 || rule%4 == 0) {
					wantCheapest(t, line(size), list, moveBySets(line(size), list))
				}
			}
		}
	}
}

// TestJustEnough has lists whose seen places are together just as many as the line has, and one less.
func TestJustEnough(t *testing.T) {
	for size := 2; size <= 24; size++ {
		for n := 1; n <= 6; n++ {
			for rule := range 12 {
				list, left := []impl.Sensor{}, size+rule%2-1
				for i := range n {
					reach := min(max(0, left-(n-1-i)-1)/2, 12)
					if i < n-1 {
						reach = min(reach, (rule+i*i)%5)
					}
					left -= 2*reach + 1
					list = append(list, impl.Sensor{At: (rule*7 + i*i*(rule+1)) % size, Reach: reach})
				}
				if left != 0 {
					continue
				}
				want := moveBySets(line(size), list)
				if want.ok != (rule%2 == 1) {
					t.Errorf("%d places, %v: %v", size, list, want)
				}
				wantCheapest(t, line(size), list, want)
			}
		}
	}
}

// TestGuaranteesOfFences takes sensors of all kinds on all lines.
func TestGuaranteesOfFences(t *testing.T) {
	for size := 2; size <= 5; size++ {
		for n := range 3 {
			for list := range allWatches(line(size), n, 3) {
				checkGuards(t, line(size), list)
			}
		}
	}
	for size := 2; size <= 24; size++ {
		for _, most := range []int{0, 1, 3, 6, 12} {
			for _, list := range someWatches(line(size), 56, most) {
				checkGuards(t, line(size), list)
			}
		}
	}
}

// TestSameReach looks whether sensors with the same Reach can guard in order if they can guard.
func TestSameReach(t *testing.T) {
	for size := 2; size <= 24; size++ {
		for reach := range 13 {
			for _, list := range someWatches(line(size), 28, 0) {
				for i := range list {
					list[i].Reach = reach
				}
				for d := range 25 {
					can, ok := impl.CanGuard(line(size), list, d)
					wantCanMove(t, "CanInOrder", impl.CanInOrder, line(size), list, d, can && ok)
				}
			}
		}
	}
}

func TestMovesThatAreNot(t *testing.T) {
	for size := 2; size <= 24; size++ {
		for _, list := range [][]impl.Sensor{nil, watch([2]int{0, 12}), watch([2]int{1, 0}, [2]int{0, 12}), slices.Repeat(watch([2]int{size - 1, 12}), 6)} {
			for _, d := range wrongMoveLimits {
				checkNoMove(t, line(size), list, d)
			}
			for d := range 25 {
				_, can := impl.CanGuard(line(size), list, d)
				_, inOrder := impl.CanInOrder(line(size), list, d)
				if !can || !inOrder {
					t.Errorf("%d places, %v: moves of %d are refused", size, list, d)
				}
			}
		}
	}
}

// evenByWords takes as few sensors as are enough, and places each one as the document says.
func evenByWords(size int, reach int) ([]int, bool) {
	for n := 1; n <= 6; n++ {
		if n*(2*reach+1) < size {
			continue
		}
		places := []int{}
		for p := reach; len(places) < n; p += 2*reach + 1 {
			switch {
			case p < size && p <= size-1-reach:
				places = append(places, p)
			case size-1-reach >= 0:
				places = append(places, size-1-reach)
			default:
				places = append(places, 0)
			}
		}
		return places, true
	}
	return nil, false
}

func TestEvenPlacesKnown(t *testing.T) {
	known := []struct {
		name        string
		size, reach int
		want        []int
	}{
		{"the last one is moved back", 8, 1, []int{1, 4, 6}}, {"just so", 6, 1, []int{1, 4}}, {"its place is none", 7, 1, []int{1, 4, 5}}, {"each one sees itself", 6, 0, []int{0, 1, 2, 3, 4, 5}}, {"two places", 2, 0, []int{0, 1}}, {"at 0", 2, 12, []int{0}}, {"at 0 as well", 6, 6, []int{0}}, {"at 0 since Size-1 is the Reach", 7, 6, []int{0}}, {"not at 0", 8, 6, []int{1}},
		{"in the middle", 5, 2, []int{2}}, {"the only one is moved back", 5, 3, []int{1}}, {"the longest line, one sensor", 24, 12, []int{11}}, {"the longest line, two", 24, 11, []int{11, 12}}, {"the longest line, five", 24, 2, []int{2, 7, 12, 17, 21}}, {"as many as may be", 18, 1, []int{1, 4, 7, 10, 13, 16}}, {"as many as may be, the last one back", 16, 1, []int{1, 4, 7, 10, 13, 14}}, {"far back", 9, 3, []int{3, 5}}, {"farther back", 15, 3, []int{3, 10, 11}},
	}
	for _, k := range known {
		places, ok := impl.EvenPlaces(line(k.size), k.reach)
		wantList(t, k.name, places, ok, k.want)
	}
	for _, k := range [][2]int{{7, 0}, {8, 0}, {24, 0}, {19, 1}, {24, 1}} {
		places, ok := impl.EvenPlaces(line(k[0]), k[1])
		wantNoList(t, "EvenPlaces of too many", places, ok)
	}
}

// TestEvenPlaces takes all lines and Reaches, and looks whether sensors there guard the line, and whether one less could.
func TestEvenPlaces(t *testing.T) {
	for size := 2; size <= 24; size++ {
		r := line(size)
		for reach := range 13 {
			want, can := evenByWords(size, reach)
			places, ok := impl.EvenPlaces(r, reach)
			if !can {
				wantNoList(t, "EvenPlaces", places, ok)
				continue
			}
			wantList(t, "EvenPlaces", places, ok, want)
			list := []impl.Sensor{}
			for _, p := range places {
				list = append(list, impl.Sensor{At: p, Reach: reach})
			}
			wantCanMove(t, "CanGuard", impl.CanGuard, r, list, 0, true)
			wantCanMove(t, "CanGuard with one less", impl.CanGuard, r, list[1:], 24, false)
		}
		for _, reach := range []int{-1, 13, 14, -12, 100, math.MaxInt, math.MaxInt / 2, math.MaxInt/2 + 1, math.MinInt, math.MinInt / 2} {
			places, ok := impl.EvenPlaces(r, reach)
			wantNoList(t, "EvenPlaces", places, ok)
		}
	}
	for _, r := range slices.Concat(wrongRoads, []impl.Road{ring(3), ring(5), ring(24)}) {
		for _, reach := range []int{0, 1, 5, 12, -1, 13} {
			places, ok := impl.EvenPlaces(r, reach)
			wantNoList(t, "EvenPlaces", places, ok)
		}
	}
}

func TestSensorsThatAreNot(t *testing.T) {
	for _, r := range []impl.Road{line(2), line(7), line(24)} {
		for _, list := range wrongWatches(r) {
			checkNoSensors(t, r, list)
		}
	}
	good := watch([2]int{1, 1}, [2]int{0, 12})
	for _, r := range slices.Concat(wrongRoads, []impl.Road{ring(3), ring(7), ring(24)}) {
		for _, list := range [][]impl.Sensor{nil, {}, {{}}, good, {{At: -1}}, slices.Repeat(good, 3), slices.Repeat(good, 4)} {
			checkNoSensors(t, r, list)
		}
	}
}

// TestFencesAreKeptApart changes results, and looks whether arguments, later results or other lists have changed with them.
func TestFencesAreKeptApart(t *testing.T) {
	r := line(10)
	watches := watch([2]int{9, 9}, [2]int{7, 3}, [2]int{2, 2}, [2]int{5, 1}, [2]int{1, 1}, [2]int{8, 8})
	list := watches[1:5]
	long := []int{77, 0, 9, 3, 3, 88}
	places := long[1:5]
	watchesBefore, longBefore := slices.Clone(watches), slices.Clone(long)
	numbers := func(list []impl.Sensor) []int {
		all := []int{}
		for i := range list {
			all = append(all, list[i].At, list[i].Reach)
			list[i] = impl.Sensor{At: -9, Reach: -9}
		}
		return all
	}
	checkKeptApart(t, map[string]func() ([][]int, bool){
		"SeenBy": func() ([][]int, bool) {
			seen, ok := impl.SeenBy(r, list)
			return [][]int{seen}, ok
		},
		"SpareSensors": func() ([][]int, bool) {
			spare, ok := impl.SpareSensors(r, list)
			return [][]int{spare}, ok
		},
		"EvenPlaces": func() ([][]int, bool) {
			places, ok := impl.EvenPlaces(r, 1)
			return [][]int{places}, ok
		},
		"MoveSensors": func() ([][]int, bool) {
			moved, greatest, sum, ok := impl.MoveSensors(r, list, places)
			return [][]int{numbers(moved), {greatest, sum}}, ok
		},
		"MoveSensors to where they are": func() ([][]int, bool) {
			moved, greatest, sum, ok := impl.MoveSensors(r, list, []int{7, 2, 5, 1})
			return [][]int{numbers(moved), {greatest, sum}}, ok
		},
		"MirrorSensors": func() ([][]int, bool) {
			mirror, ok := impl.MirrorSensors(r, list)
			return [][]int{numbers(mirror)}, ok
		},
		"UnseenRuns": func() ([][]int, bool) {
			runs, ok := impl.UnseenRuns(r, list[2:])
			all := []int{}
			for i := range runs {
				all = append(all, runs[i][0], runs[i][1])
				runs[i] = [2]int{-9, -9}
			}
			return [][]int{all}, ok
		},
	})
	impl.AreSensors(r, list)
	impl.StrengthOf(r, list)
	wantCheapest(t, r, list, cheapest{0, 0, 0, true})
	wantCheapest(t, r, list[1:], cheapest{3, 5, 3, true})
	if !reflect.DeepEqual(watches, watchesBefore) || !slices.Equal(long, longBefore) {
		t.Error("arguments have changed:", watches, long)
	}
}
