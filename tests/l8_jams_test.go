package tests

import (
	"math"
	"reflect"
	"slices"
	"testing"

	"loop.example/g01148/impl"
)

// turnByWords goes from place to place: a place has a car behind a turn if its own stays, or that of the place before comes.
func turnByWords(lane []int) ([]int, int) {
	n := len(lane)
	next, flow := make([]int, n), 0
	for p := range lane {
		before, after := lane[(p+n-1)%n], lane[(p+1)%n]
		if lane[p] == 1 && after == 1 || lane[p] == 0 && before == 1 {
			next[p] = 1
		}
		if lane[p] == 1 && after == 0 {
			flow++
		}
	}
	return next, flow
}

// driveByWords returns the lanes behind 0 turns, 1 and so on up to a number of them, and the flow of each of these lanes.
func driveByWords(lane []int, turns int) ([][]int, []int) {
	lanes, flows := [][]int{}, []int{}
	for range turns + 1 {
		next, flow := turnByWords(lane)
		lanes, flows = append(lanes, lane), append(flows, flow)
		lane = next
	}
	return lanes, flows
}

// goWithCars follows each car, and returns how far it has come from the place 0 behind 0 turns, 1 and so on.
func goWithCars(lane []int, turns int) [][]int {
	n := len(lane)
	way := []int{}
	for p, taken := range lane {
		if taken == 1 {
			way = append(way, p)
		}
	}
	ways := [][]int{way}
	for range turns {
		next := slices.Clone(way)
		for i := range way {
			ahead := way[(i+1)%len(way)]
			if len(way) == 1 || (way[i]+1-ahead)%n != 0 {
				next[i]++
			}
		}
		way = next
		ways = append(ways, way)
	}
	return ways
}

func countOf(list []int, number int) int {
	count := 0
	for _, n := range list {
		if n == number {
			count++
		}
	}
	return count
}

func sumUp(list []int) int {
	sum := 0
	for _, n := range list {
		sum += n
	}
	return sum
}

// rowOf returns the lane of n places that has so many cars in a row, the first one of them at a place.
func rowOf(n int, cars int, first int) []int {
	lane := make([]int, n)
	for i := range cars {
		lane[(first+i)%n] = 1
	}
	return lane
}

// someLanes returns lanes of n places: all rows of cars, and others by fixed rules.
func someLanes(n int) [][]int {
	lanes := [][]int{}
	for cars := range n + 1 {
		for first := range n {
			lanes = append(lanes, rowOf(n, cars, first))
		}
	}
	for rule := range 80 {
		lane := make([]int, n)
		for p := range lane {
			if (p*p*(rule%5+1)+p*(rule%7)+rule*3)%11 < 2+rule%8 {
				lane[p] = 1
			}
		}
		lanes = append(lanes, lane)
	}
	return lanes
}

var wrongTurns = []int{-1, -2, 61, 62, -60, math.MaxInt, math.MaxInt - 1, math.MinInt, math.MinInt + 1}

// wrongLanes returns lists that are no lanes.
func wrongLanes() [][]int {
	lanes := [][]int{nil, {}, make([]int, 100000), slices.Repeat([]int{1}, 100000)}
	for _, n := range []int{1, 2, 25, 26, 48} {
		lanes = append(lanes, make([]int, n), slices.Repeat([]int{1}, n), rowOf(n, n/2, 0))
	}
	for _, n := range []int{3, 4, 23, 24} {
		for _, number := range []int{2, -1, 3, 10, math.MaxInt, math.MinInt} {
			for p := range n {
				lane := rowOf(n, n/2, 0)
				lane[p] = number
				lanes = append(lanes, lane)
			}
			lanes = append(lanes, slices.Repeat([]int{number}, n))
		}
	}
	return lanes
}

func wantTurn(t *testing.T, lane []int, want []int, flow int) {
	t.Helper()
	if next, n, ok := impl.TurnLane(lane); !ok || n != flow || !slices.Equal(next, want) {
		t.Errorf("TurnLane(%v) = %v, %d, %v; want %v, %d, true", lane, next, n, ok, want, flow)
	}
}

// checkTurns holds a number of turns against driving.
func checkTurns(t *testing.T, lane []int, turns int, lanes [][]int, flows []int, ways [][]int) {
	t.Helper()
	after, ok := impl.LaneAfter(lane, turns)
	wantList(t, "LaneAfter", after, ok, lanes[turns])
	got, ok := impl.FlowsOf(lane, turns)
	wantList(t, "FlowsOf", got, ok, flows[:turns])
	places, ok := impl.CarPlaces(lane, turns)
	want := []int{}
	for _, way := range ways[turns] {
		want = append(want, way%len(lane))
	}
	wantList(t, "CarPlaces", places, ok, want)
	if countOf(after, 1) != countOf(lane, 1) || sumUp(got) != sumUp(ways[turns])-sumUp(ways[0]) {
		t.Errorf("%v has %v cars behind %d turns, which went %d and not %d", lane, after, turns, sumUp(ways[turns])-sumUp(ways[0]), sumUp(got))
	}
}

// checkAround looks whether free places go in the one direction as cars do in the other one.
func checkAround(t *testing.T, lane []int) {
	t.Helper()
	around, ok := impl.TurnAround(lane)
	want := []int{}
	for p := range lane {
		want = append(want, 1-lane[len(lane)-1-p])
	}
	wantList(t, "TurnAround", around, ok, want)
	again, ok := impl.TurnAround(around)
	wantList(t, "TurnAround twice", again, ok, lane)
	next, flow, _ := impl.TurnLane(lane)
	back, ok := impl.TurnAround(next)
	wantTurn(t, around, back, flow)
	if !ok {
		t.Errorf("%v, which is behind a turn of %v, is not turned around", next, lane)
	}
}

// checkCalm holds what becomes of the flow against driving.
func checkCalm(t *testing.T, lane []int, flows []int) {
	t.Helper()
	last, ok := impl.LastFlow(lane)
	wantNumber(t, "LastFlow", last, ok, flows[60])
	if last != min(countOf(lane, 0), countOf(lane, 1)) {
		t.Errorf("LastFlow(%v) = %d", lane, last)
	}
	calm, ok := impl.CalmTurn(lane)
	wantNumber(t, "CalmTurn", calm, ok, slices.Index(flows, last))
	for turn, flow := range flows {
		if flow > last || turn >= len(lane)/2 && flow != last || turn >= calm && flow != last {
			t.Errorf("%v has the flow %d behind %d turns; LastFlow %d, CalmTurn %d", lane, flow, turn, last, calm)
		}
	}
}

// checkLane holds all that is told of a lane against driving.
func checkLane(t *testing.T, lane []int, turns ...int) {
	t.Helper()
	if !impl.IsLane(lane) {
		t.Errorf("IsLane(%v) = false", lane)
	}
	lanes, flows := driveByWords(lane, 60)
	ways := goWithCars(lane, 60)
	for _, n := range turns {
		checkTurns(t, lane, n, lanes, flows, ways)
	}
	wantTurn(t, lane, lanes[1], flows[0])
	jams, ok := impl.JamsOf(lane)
	want := []int{}
	for p := range lane {
		if lane[p] == 1 && lane[(p+1)%len(lane)] == 1 {
			want = append(want, p)
		}
	}
	wantList(t, "JamsOf", jams, ok, want)
	checkCalm(t, lane, flows)
	checkAround(t, lane)
}

// checkNoTurns takes a lane or a number of turns that is not valid.
func checkNoTurns(t *testing.T, lane []int, turns int) {
	t.Helper()
	for name, call := range map[string]func([]int, int) ([]int, bool){"LaneAfter": impl.LaneAfter, "FlowsOf": impl.FlowsOf, "CarPlaces": impl.CarPlaces} {
		got, ok := call(lane, turns)
		wantNoList(t, name, got, ok)
	}
}

func TestLimitsOfJams(t *testing.T) {
	if impl.MaxLane != 24 || impl.MaxSteps != 60 || impl.MaxBeads != 8 || impl.MaxWire != 30 {
		t.Error("limits", impl.MaxLane, impl.MaxSteps, impl.MaxBeads, impl.MaxWire)
	}
}

func TestLanesKnown(t *testing.T) {
	known := []struct {
		name  string
		lane  []int
		next  []int
		flow  int
		last  int
		calm  int
		jams  []int
		cars  []int
		flows []int
	}{
		{"no cars", []int{0, 0, 0}, []int{0, 0, 0}, 0, 0, 0, nil, nil, []int{0, 0, 0}}, {"one car", []int{0, 1, 0, 0}, []int{0, 0, 1, 0}, 1, 1, 0, nil, []int{0}, []int{1, 1, 1}}, {"one car of three places", []int{1, 0, 0}, []int{0, 1, 0}, 1, 1, 0, nil, []int{0}, []int{1, 1, 1}}, {"a full one", []int{1, 1, 1}, []int{1, 1, 1}, 0, 0, 0, []int{0, 1, 2}, []int{0, 1, 2}, []int{0, 0, 0}},
		{"one free place", []int{1, 0, 1, 1}, []int{0, 1, 1, 1}, 1, 1, 0, []int{2, 3}, []int{1, 3, 0}, []int{1, 1, 1}}, {"one free place of three", []int{1, 1, 0}, []int{1, 0, 1}, 1, 1, 0, []int{0}, []int{1, 0}, []int{1, 1, 1}}, {"to the place 0", []int{0, 0, 0, 1}, []int{1, 0, 0, 0}, 1, 1, 0, nil, []int{2}, []int{1, 1, 1}}, {"the place 0 is taken", []int{1, 0, 0, 1}, []int{0, 1, 0, 1}, 1, 2, 1, []int{3}, []int{3, 1}, []int{1, 2, 2}},
		{"a car goes where one has just left", []int{1, 1, 0, 0, 0}, []int{1, 0, 1, 0, 0}, 1, 2, 1, []int{0}, []int{2, 4}, []int{1, 2, 2}}, {"calm from the beginning", []int{1, 0, 1, 0, 1, 0}, []int{0, 1, 0, 1, 0, 1}, 3, 3, 0, nil, []int{3, 5, 1}, []int{3, 3, 3}}, {"a jam over the end", []int{1, 1, 0, 0, 1, 1}, []int{1, 0, 1, 0, 1, 1}, 1, 2, 1, []int{0, 4, 5}, []int{2, 3, 4, 0}, []int{1, 2, 2}}, {"two jams", []int{1, 1, 1, 0, 1, 1, 0, 0}, []int{1, 1, 0, 1, 1, 0, 1, 0}, 2, 3, 1, []int{0, 1, 4}, []int{1, 2, 4, 6, 7}, []int{2, 3, 3}},
		{"one car more than free places", []int{1, 1, 1, 0, 0}, []int{1, 1, 0, 1, 0}, 1, 2, 1, []int{0, 1}, []int{1, 3, 4}, []int{1, 2, 2}}, {"as many", []int{1, 1, 1, 0, 0, 0}, []int{1, 1, 0, 1, 0, 0}, 1, 3, 2, []int{0, 1}, []int{1, 3, 5}, []int{1, 2, 3}}, {"one free place more than cars", []int{0, 0, 1, 1, 0}, []int{0, 0, 1, 0, 1}, 1, 2, 1, []int{2}, []int{4, 1}, []int{1, 2, 2}},
	}
	for _, k := range known {
		t.Run(k.name, func(t *testing.T) {
			wantTurn(t, k.lane, k.next, k.flow)
			last, ok := impl.LastFlow(k.lane)
			wantNumber(t, "LastFlow", last, ok, k.last)
			calm, ok := impl.CalmTurn(k.lane)
			wantNumber(t, "CalmTurn", calm, ok, k.calm)
			jams, ok := impl.JamsOf(k.lane)
			wantList(t, "JamsOf", jams, ok, k.jams)
			flows, ok := impl.FlowsOf(k.lane, 3)
			wantList(t, "FlowsOf", flows, ok, k.flows)
			cars, ok := impl.CarPlaces(k.lane, 3)
			wantList(t, "CarPlaces", cars, ok, k.cars)
			checkLane(t, k.lane, 0, 1, 2, 3, 59, 60)
		})
	}
}

// TestAllLanes takes all lanes of few places: the flow becomes the less one of cars and free places.
func TestAllLanes(t *testing.T) {
	for n := 3; n <= 11; n++ {
		for lane := range listsBelow(2, n) {
			checkLane(t, lane, 0, 1, 2, n/2, n, 60)
		}
	}
	for n := 3; n <= 6; n++ {
		for lane := range listsBelow(2, n) {
			for turns := range 61 {
				checkLane(t, lane, turns)
			}
		}
	}
}

// TestLongLanes takes lanes of all lengths.
func TestLongLanes(t *testing.T) {
	for n := 3; n <= 24; n++ {
		for i, lane := range someLanes(n) {
			checkLane(t, lane, 0, 1, 2, i%61, 60)
		}
	}
}

// TestCalmest has the lanes that need the most turns: half of the length less one, so that none needs half of it.
func TestCalmest(t *testing.T) {
	for n := 3; n <= 24; n++ {
		for first := range n {
			for cars := range n + 1 {
				want := max(0, min(cars, n-cars)-1)
				calm, ok := impl.CalmTurn(rowOf(n, cars, first))
				wantNumber(t, "CalmTurn of a row", calm, ok, want)
			}
		}
	}
	for n := 3; n <= 12; n++ {
		most := 0
		for lane := range listsBelow(2, n) {
			calm, _ := impl.CalmTurn(lane)
			most = max(most, calm)
		}
		if most != n/2-1 {
			t.Errorf("of the lanes of %d places one needs %d turns", n, most)
		}
	}
}

// TestCarsDoNotPass looks whether each car stays between those that it is between at first.
func TestCarsDoNotPass(t *testing.T) {
	for n := 3; n <= 24; n++ {
		for _, lane := range someLanes(n) {
			for _, turns := range []int{0, 1, 7, 30, 60} {
				places, ok := impl.CarPlaces(lane, turns)
				rises := []int{}
				for _, p := range places {
					rises = append(rises, (p-places[0]+n)%n)
				}
				if !ok || len(places) != countOf(lane, 1) || !slices.IsSorted(rises) || len(slices.Compact(rises)) != len(places) {
					t.Errorf("CarPlaces(%v, %d) = %v, %v", lane, turns, places, ok)
				}
			}
		}
	}
}

func TestLanesThatAreNot(t *testing.T) {
	for _, lane := range wrongLanes() {
		if impl.IsLane(lane) {
			t.Errorf("IsLane(%.50v) = true", lane)
		}
		for _, turns := range append([]int{0, 1, 2, 60}, wrongTurns...) {
			checkNoTurns(t, lane, turns)
		}
		next, flow, ok := impl.TurnLane(lane)
		wantNoList(t, "TurnLane", next, ok)
		wantNoNumber(t, "TurnLane", flow, ok)
		for name, call := range map[string]func([]int) (int, bool){"LastFlow": impl.LastFlow, "CalmTurn": impl.CalmTurn} {
			got, ok := call(lane)
			wantNoNumber(t, name, got, ok)
		}
		for name, call := range map[string]func([]int) ([]int, bool){"TurnAround": impl.TurnAround, "JamsOf": impl.JamsOf} {
			got, ok := call(lane)
			wantNoList(t, name, got, ok)
		}
	}
}

func TestTurnsThatAreNot(t *testing.T) {
	for n := 3; n <= 24; n++ {
		for _, cars := range []int{0, 1, n / 2, n - 1, n} {
			for _, turns := range wrongTurns {
				checkNoTurns(t, rowOf(n, cars, n-1), turns)
			}
			checkLane(t, rowOf(n, cars, n-1), 0, 60)
		}
	}
}

func wire(length int, places []int, ways ...int) impl.Wire {
	return impl.Wire{Length: length, Places: places, Ways: ways}
}

// trip is what the beads of a wire do: where each one of them falls off and when, how often they meet, and at each time who is left and where.
type trip struct {
	falls, ends   []int
	meets         int
	beads, places [][]int
}

// slide follows the beads in steps of half a unit of time, in which each goes half a place.
func slide(w impl.Wire) trip {
	n := len(w.Places)
	s := trip{falls: slices.Repeat([]int{-1}, n), ends: make([]int, n)}
	halves, ways := []int{}, slices.Clone(w.Ways)
	for _, p := range w.Places {
		halves = append(halves, 2*p)
	}
	for half := 0; half <= 2*w.Length+4; half++ {
		for i := range n {
			for j := range i {
				if s.falls[i] < 0 && s.falls[j] < 0 && halves[i] == halves[j] {
					ways[i], ways[j] = -ways[i], -ways[j]
					s.meets++
				}
			}
		}
		beads, places := []int{}, []int{}
		for i := range n {
			if s.falls[i] < 0 {
				beads, places = append(beads, i), append(places, halves[i]/2)
			}
		}
		if half%2 == 0 {
			s.beads, s.places = append(s.beads, beads), append(s.places, places)
		}
		for _, i := range beads {
			if halves[i] == 0 && ways[i] == -1 || halves[i] == 2*w.Length && ways[i] == 1 {
				s.falls[i], s.ends[i] = half/2, ways[i]
			}
			halves[i] += ways[i]
		}
	}
	return s
}

// slideShades returns when each shade falls off, and the places of those that are left at each time, in ascending order.
func slideShades(w impl.Wire) ([]int, [][]int) {
	falls, all := make([]int, len(w.Places)), [][]int{}
	for time := range w.Length + 3 {
		places := []int{}
		for i, p := range w.Places {
			if q := p + w.Ways[i]*time; q >= 0 && q <= w.Length {
				places = append(places, q)
				falls[i] = time
			}
		}
		slices.Sort(places)
		all = append(all, places)
	}
	return falls, all
}

// allWires yields all wires of a length.
func allWires(length int) func(func(impl.Wire) bool) {
	return func(yield func(impl.Wire) bool) {
		for kinds := range listsBelow(3, length+1) {
			w := impl.Wire{Length: length}
			for p, kind := range kinds {
				if kind > 0 {
					w.Places, w.Ways = append(w.Places, p), append(w.Ways, 2*kind-3)
				}
			}
			if len(w.Places) <= 8 && !yield(w) {
				return
			}
		}
	}
}

// someWires returns wires of a length with 0..8 beads at places of all parts of it, by fixed rules.
func someWires(length int, rules int) []impl.Wire {
	wires := []impl.Wire{}
	for rule := range rules {
		places := []int{}
		for i := range min(rule%9, length+1) {
			places = append(places, (rule*5+i*(2*i+rule/9+1))%(length+1))
		}
		slices.Sort(places)
		w := impl.Wire{Length: length, Places: slices.Compact(places)}
		for i := range w.Places {
			w.Ways = append(w.Ways, 2*((rule/3+i*i*(rule%4+1))%5%2)-1)
		}
		wires = append(wires, w)
	}
	return wires
}

// wrongWires returns what is no wire.
func wrongWires() []impl.Wire {
	wires := []impl.Wire{{}, {Places: []int{0}, Ways: []int{1}}}
	for _, length := range []int{0, 31, -1, 32, 1000, -30, math.MaxInt, math.MinInt} {
		wires = append(wires, wire(length, nil), wire(length, []int{0}, 1), wire(length, []int{0, 1}, 1, -1), wire(length, []int{length}, -1))
	}
	for _, length := range []int{1, 2, 8, 9, 30} {
		for _, p := range []int{-1, length + 1, length + 2, -length - 1, math.MaxInt, math.MinInt} {
			wires = append(wires, wire(length, []int{p}, 1), wire(length, []int{p}, -1), wire(length, []int{0, p}, 1, 1), wire(length, []int{p, length}, -1, -1), wire(length, []int{0, p, length}, 1, -1, 1))
		}
		for _, way := range []int{0, 2, -2, 3, math.MaxInt, math.MinInt} {
			wires = append(wires, wire(length, []int{1}, way), wire(length, []int{0, 1}, way, 1), wire(length, []int{0, 1}, -1, way), wire(length, []int{0, 1}, way, way))
		}
		wires = append(wires, wire(length, []int{0, 0}, 1, 1), wire(length, []int{1, 1}, 1, -1), wire(length, []int{1, 0}, 1, -1), wire(length, []int{0, 1, 1}, 1, -1, 1), wire(length, []int{0, 1, 0}, 1, -1, 1))
		wires = append(wires, wire(length, nil, 1), wire(length, []int{0}), wire(length, []int{0}, 1, 1), wire(length, []int{0, 1}, 1), wire(length, []int{0, 1}, 1, 1, 1), wire(length, nil, make([]int, 1000)...), wire(length, make([]int, 1000)))
		nine := []int{0, 1, 2, 3, 4, 5, 6, 7, 8}
		wires = append(wires, wire(length, nine, 1, 1, 1, 1, 1, 1, 1, 1, 1), wire(length, nine, -1, 1, -1, 1, -1, 1, -1, 1, -1), wire(length, nine, 1, 1, 1, 1, 1, 1, 1, 1), wire(length, nine[:8], 1, 1, 1, 1, 1, 1, 1, 1, 1), wire(length, make([]int, 100000), make([]int, 100000)...))
	}
	return wires
}

func wantFalls(t *testing.T, w impl.Wire, falls []int, ends []int) {
	t.Helper()
	if got, sides, ok := impl.FallsOf(w); !ok || !slices.Equal(got, falls) || !slices.Equal(sides, ends) {
		t.Errorf("FallsOf(%v) = %v, %v, %v; want %v, %v, true", w, got, sides, ok, falls, ends)
	}
}

func wantBeads(t *testing.T, w impl.Wire, time int, beads []int, places []int) {
	t.Helper()
	if got, at, ok := impl.BeadsAt(w, time); !ok || !slices.Equal(got, beads) || !slices.Equal(at, places) {
		t.Errorf("BeadsAt(%v, %d) = %v, %v, %v; want %v, %v, true", w, time, got, at, ok, beads, places)
	}
}

func wantNoBeads(t *testing.T, w impl.Wire, time int) {
	t.Helper()
	if beads, places, ok := impl.BeadsAt(w, time); ok || len(beads) != 0 || len(places) != 0 {
		t.Errorf("BeadsAt(%.50v, %d) = %v, %v, %v; want none, none, false", w, time, beads, places, ok)
	}
}

// checkMirrorWire looks whether a mirrored wire is the same from the other end.
func checkMirrorWire(t *testing.T, w impl.Wire, s trip) {
	t.Helper()
	n := len(w.Places)
	m, ok := impl.MirrorWire(w)
	want := impl.Wire{Length: w.Length, Places: make([]int, n), Ways: make([]int, n)}
	falls, ends := make([]int, n), make([]int, n)
	for i := range n {
		want.Places[n-1-i], want.Ways[n-1-i] = w.Length-w.Places[i], -w.Ways[i]
		falls[n-1-i], ends[n-1-i] = s.falls[i], -s.ends[i]
	}
	if !ok || !isSameWire(m, want) {
		t.Errorf("MirrorWire(%v) = %v, %v", w, m, ok)
	}
	if again, ok := impl.MirrorWire(m); !ok || !isSameWire(again, w) {
		t.Errorf("%v is %v, %v when it is mirrored twice", w, again, ok)
	}
	wantFalls(t, m, falls, ends)
	meets, ok := impl.CountMeets(m)
	wantNumber(t, "CountMeets of the mirrored wire", meets, ok, s.meets)
	last, ok := impl.LastFall(m)
	wantNumber(t, "LastFall of the mirrored wire", last, ok, slices.Max(append([]int{0}, s.falls...)))
}

func isSameWire(a impl.Wire, b impl.Wire) bool {
	return a.Length == b.Length && slices.Equal(a.Places, b.Places) && slices.Equal(a.Ways, b.Ways)
}

// checkWire holds all that is told of a wire against its beads and its shades.
func checkWire(t *testing.T, w impl.Wire) {
	t.Helper()
	if !impl.IsWire(w) {
		t.Errorf("IsWire(%v) = false", w)
	}
	s := slide(w)
	times, shades := slideShades(w)
	got, ok := impl.ShadeTimes(w)
	wantList(t, "ShadeTimes", got, ok, times)
	last, ok := impl.LastFall(w)
	wantNumber(t, "LastFall", last, ok, slices.Max(append([]int{0}, s.falls...)))
	wantFalls(t, w, s.falls, s.ends)
	meets, ok := impl.CountMeets(w)
	wantNumber(t, "CountMeets", meets, ok, s.meets)
	for time := range w.Length + 3 {
		wantBeads(t, w, time, s.beads[time], s.places[time])
		wantBeads(t, w, time, s.beads[time], shades[time])
	}
	for _, time := range []int{60, 61, 1000000, math.MaxInt - 1, math.MaxInt} {
		wantBeads(t, w, time, nil, nil)
	}
	for _, time := range []int{-1, -2, -30, math.MinInt, math.MinInt + 1} {
		wantNoBeads(t, w, time)
	}
	checkMirrorWire(t, w, s)
}

func TestWiresKnown(t *testing.T) {
	known := []struct {
		name   string
		w      impl.Wire
		shades []int
		falls  []int
		ends   []int
		meets  int
	}{
		{"no beads", wire(7, nil), nil, nil, nil, 0}, {"no beads on the shortest wire", wire(1, []int{}), nil, nil, nil, 0}, {"one to the left", wire(7, []int{3}, -1), []int{3}, []int{3}, []int{-1}, 0}, {"one to the right", wire(7, []int{3}, 1), []int{4}, []int{4}, []int{1}, 0},
		{"off the left end at once", wire(7, []int{0}, -1), []int{0}, []int{0}, []int{-1}, 0}, {"off the right end at once", wire(7, []int{7}, 1), []int{0}, []int{0}, []int{1}, 0}, {"from end to end", wire(30, []int{0}, 1), []int{30}, []int{30}, []int{1}, 0}, {"from the right end", wire(30, []int{30}, -1), []int{30}, []int{30}, []int{-1}, 0},
		{"neighbors meet in the middle", wire(7, []int{3, 4}, 1, -1), []int{4, 4}, []int{4, 4}, []int{-1, 1}, 1}, {"two meet at a place", wire(7, []int{2, 4}, 1, -1), []int{5, 4}, []int{4, 5}, []int{-1, 1}, 1}, {"two go apart", wire(7, []int{3, 4}, -1, 1), []int{3, 3}, []int{3, 3}, []int{-1, 1}, 0}, {"the shortest wire, inwards", wire(1, []int{0, 1}, 1, -1), []int{1, 1}, []int{1, 1}, []int{-1, 1}, 1}, {"the shortest wire, outwards", wire(1, []int{0, 1}, -1, 1), []int{0, 0}, []int{0, 0}, []int{-1, 1}, 0},
		{"the ends, inwards", wire(30, []int{0, 30}, 1, -1), []int{30, 30}, []int{30, 30}, []int{-1, 1}, 1}, {"all to the left", wire(9, []int{0, 2, 5, 9}, -1, -1, -1, -1), []int{0, 2, 5, 9}, []int{0, 2, 5, 9}, []int{-1, -1, -1, -1}, 0}, {"all to the right", wire(9, []int{0, 2, 5, 9}, 1, 1, 1, 1), []int{9, 7, 4, 0}, []int{9, 7, 4, 0}, []int{1, 1, 1, 1}, 0},
		{"the first one falls off at the right", wire(10, []int{2, 5, 9}, 1, 1, 1), []int{8, 5, 1}, []int{8, 5, 1}, []int{1, 1, 1}, 0}, {"turned around twice", wire(10, []int{1, 2, 8, 9}, 1, 1, -1, -1), []int{9, 8, 8, 9}, []int{8, 9, 9, 8}, []int{-1, -1, 1, 1}, 4}, {"two fall off at the same time at both ends", wire(10, []int{2, 8}, -1, 1), []int{2, 2}, []int{2, 2}, []int{-1, 1}, 0},
		{"as many beads as there may be", wire(30, []int{0, 1, 2, 3, 27, 28, 29, 30}, 1, 1, 1, 1, -1, -1, -1, -1), []int{30, 29, 28, 27, 27, 28, 29, 30}, []int{27, 28, 29, 30, 30, 29, 28, 27}, []int{-1, -1, -1, -1, 1, 1, 1, 1}, 16}, {"taking turns", wire(7, []int{0, 1, 2, 3, 4, 5, 6, 7}, 1, -1, 1, -1, 1, -1, 1, -1), []int{7, 1, 5, 3, 3, 5, 1, 7}, []int{1, 3, 5, 7, 7, 5, 3, 1}, []int{-1, -1, -1, -1, 1, 1, 1, 1}, 10},
	}
	for _, k := range known {
		t.Run(k.name, func(t *testing.T) {
			shades, ok := impl.ShadeTimes(k.w)
			wantList(t, "ShadeTimes", shades, ok, k.shades)
			wantFalls(t, k.w, k.falls, k.ends)
			meets, ok := impl.CountMeets(k.w)
			wantNumber(t, "CountMeets", meets, ok, k.meets)
			checkWire(t, k.w)
		})
	}
}

func TestBeadsKnown(t *testing.T) {
	w := wire(10, []int{2, 5, 9}, 1, -1, -1)
	known := []struct {
		time          int
		beads, places []int
	}{
		{0, []int{0, 1, 2}, []int{2, 5, 9}}, {1, []int{0, 1, 2}, []int{3, 4, 8}}, {2, []int{0, 1, 2}, []int{3, 4, 7}}, {4, []int{0, 1, 2}, []int{1, 5, 6}}, {5, []int{0, 1, 2}, []int{0, 4, 7}}, {6, []int{1, 2}, []int{3, 8}}, {8, []int{1, 2}, []int{1, 10}}, {9, []int{1}, []int{0}}, {10, nil, nil}, {11, nil, nil}, {math.MaxInt, nil, nil},
	}
	for _, k := range known {
		wantBeads(t, w, k.time, k.beads, k.places)
	}
	wantBeads(t, wire(8, []int{1, 3, 5}, 1, -1, -1), 1, []int{0, 1, 2}, []int{2, 2, 4})
	wantBeads(t, wire(8, []int{0, 8}, -1, 1), 0, []int{0, 1}, []int{0, 8})
	wantBeads(t, wire(8, []int{0, 8}, -1, 1), 1, nil, nil)
	wantBeads(t, wire(8, nil), 0, nil, nil)
}

// TestAllWires takes all short wires: the beads fall off at the times of shades.
func TestAllWires(t *testing.T) {
	for length := 1; length <= 8; length++ {
		for w := range allWires(length) {
			checkWire(t, w)
		}
	}
}

// TestLongWires takes wires of all lengths.
func TestLongWires(t *testing.T) {
	for length := 1; length <= 30; length++ {
		for _, w := range someWires(length, 270) {
			checkWire(t, w)
		}
		for p := range length + 1 {
			for _, way := range []int{-1, 1} {
				checkWire(t, wire(length, []int{p}, way))
			}
		}
	}
}

func TestWiresThatAreNot(t *testing.T) {
	for _, w := range wrongWires() {
		if impl.IsWire(w) {
			t.Errorf("IsWire(%.50v) = true", w)
		}
		shades, ok := impl.ShadeTimes(w)
		wantNoList(t, "ShadeTimes", shades, ok)
		falls, ends, ok := impl.FallsOf(w)
		wantNoList(t, "FallsOf", falls, ok)
		wantNoList(t, "FallsOf", ends, ok)
		for name, call := range map[string]func(impl.Wire) (int, bool){"LastFall": impl.LastFall, "CountMeets": impl.CountMeets} {
			got, ok := call(w)
			wantNoNumber(t, name, got, ok)
		}
		for _, time := range []int{0, 1, -1, 30, math.MaxInt, math.MinInt} {
			wantNoBeads(t, w, time)
		}
		if m, ok := impl.MirrorWire(w); ok || m.Length != 0 || len(m.Places) != 0 || len(m.Ways) != 0 {
			t.Errorf("MirrorWire(%.50v) = %v, %v", w, m, ok)
		}
	}
}

// TestJamsAreKeptApart changes results, and looks whether arguments, later results or other lists have changed with them.
func TestJamsAreKeptApart(t *testing.T) {
	places, ways := []int{77, 2, 5, 9, 88}, []int{66, 1, -1, -1, 55}
	long := []int{77, 1, 1, 0, 1, 0, 0, 88}
	lane, w := long[1:7], wire(10, places[1:4], ways[1:4]...)
	placesBefore, waysBefore, longBefore := slices.Clone(places), slices.Clone(ways), slices.Clone(long)
	list := func(call func([]int) ([]int, bool)) func() ([][]int, bool) {
		return func() ([][]int, bool) {
			got, ok := call(lane)
			return [][]int{got}, ok
		}
	}
	behind := func(call func([]int, int) ([]int, bool), turns int) func() ([][]int, bool) {
		return list(func(lane []int) ([]int, bool) { return call(lane, turns) })
	}
	checkKeptApart(t, map[string]func() ([][]int, bool){
		"TurnLane": list(func(lane []int) ([]int, bool) {
			next, _, ok := impl.TurnLane(lane)
			return next, ok
		}),
		"LaneAfter": behind(impl.LaneAfter, 3), "LaneAfter no turns": behind(impl.LaneAfter, 0), "FlowsOf": behind(impl.FlowsOf, 4), "CarPlaces": behind(impl.CarPlaces, 3), "CarPlaces at first": behind(impl.CarPlaces, 0),
		"TurnAround": list(impl.TurnAround), "JamsOf": list(impl.JamsOf),
		"ShadeTimes": func() ([][]int, bool) {
			times, ok := impl.ShadeTimes(w)
			return [][]int{times}, ok
		},
		"FallsOf": func() ([][]int, bool) {
			falls, ends, ok := impl.FallsOf(w)
			return [][]int{falls, ends}, ok
		},
		"BeadsAt": func() ([][]int, bool) {
			beads, at, ok := impl.BeadsAt(w, 0)
			return [][]int{beads, at}, ok
		},
		"MirrorWire": func() ([][]int, bool) {
			m, ok := impl.MirrorWire(w)
			return [][]int{m.Places, m.Ways}, ok
		},
	})
	impl.IsLane(lane)
	impl.LastFlow(lane)
	impl.CalmTurn(lane)
	impl.IsWire(w)
	impl.LastFall(w)
	impl.CountMeets(w)
	if !reflect.DeepEqual([][]int{places, ways, long}, [][]int{placesBefore, waysBefore, longBefore}) {
		t.Error("arguments have changed:", places, ways, long)
	}
}
