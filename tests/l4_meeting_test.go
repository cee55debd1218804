package tests

import (
	"math"
	"reflect"
	"slices"
	"testing"

	"loop.example/g01148/impl"
)

// goer returns a Walker that makes the moves at once, with the Facing 1.
func goer(start int, moves ...int) impl.Walker {
	return impl.Walker{Start: start, Facing: 1, Moves: moves}
}

// from returns the Walker as if a place were its Start.
func from(w impl.Walker, start int) impl.Walker {
	w.Start = start
	return w
}

// manyMoves returns n moves that follow a rule.
func manyMoves(n int, rule int) []int {
	moves := []int{}
	for i := range n {
		moves = append(moves, (i*i*rule+i/2+rule)%5%3-1)
	}
	return moves
}

// someMoves returns lists of 1..24 moves.
func someMoves() [][]int {
	return [][]int{{1}, {-1}, {0}, {1, -1}, {0, 1}, {-1, 0, 1}, {1, 1, 0, -1}, manyMoves(7, 1), manyMoves(23, 2), manyMoves(24, 3), slices.Repeat([]int{1}, 24)}
}

// someWalkers returns Walkers on a road with various Starts, Facings, Delays and moves.
func someWalkers(r impl.Road) []impl.Walker {
	walkers := []impl.Walker{}
	for i, moves := range someMoves() {
		for k, delay := range []int{0, 1, 25, 59, 60} {
			facing := 1 - 2*((i+k)%2)
			walkers = append(walkers, impl.Walker{Start: (3*i + 5*k) % r.Size, Facing: facing, Delay: delay, Moves: moves})
		}
	}
	return walkers
}

// followed returns where a Walker is at the times 0..n, by the document's words.
func followed(r impl.Road, w impl.Walker, n int) []int {
	p, next := w.Start, 0
	places := []int{p}
	for time := 0; time < n; time++ {
		if time >= w.Delay {
			p += w.Facing * w.Moves[next]
			if next++; next == len(w.Moves) {
				next = 0
			}
		}
		if r.Ring {
			p = (p + r.Size) % r.Size
		} else {
			p = max(0, min(p, r.Size-1))
		}
		places = append(places, p)
	}
	return places
}

// meetingOf returns the time and the place of a meeting by following the Walkers, -1 and -1 if they do not meet.
func meetingOf(r impl.Road, walkers ...impl.Walker) (int, int) {
	paths := [][]int{}
	for _, w := range walkers {
		paths = append(paths, followed(r, w, 60))
	}
	return meetingOfPaths(paths)
}

func meetingOfPaths(paths [][]int) (int, int) {
	for time := 0; time <= 60; time++ {
		least, greatest := paths[0][time], paths[0][time]
		for _, path := range paths {
			least, greatest = min(least, path[time]), max(greatest, path[time])
		}
		if least == greatest {
			return time, least
		}
	}
	return -1, -1
}

// tableByWords returns the table of two Walkers, and the greatest number in it, -1 if they do not meet for some Starts.
func tableByWords(r impl.Road, a impl.Walker, b impl.Walker) ([][]int, int) {
	table, worst, all := [][]int{}, 0, true
	for p := range r.Size {
		table = append(table, []int{})
		for q := range r.Size {
			time, _ := meetingOf(r, from(a, p), from(b, q))
			table[p] = append(table[p], time)
			worst = max(worst, time)
			all = all && time >= 0
		}
	}
	if !all {
		worst = -1
	}
	return table, worst
}

// wrongMoves are lists that are no moves.
var wrongMoves = [][]int{
	nil, {}, {2}, {-2}, {1, 2}, {-2, 1}, {0, 1, 3, 1}, {1, -1, 0, 5}, {math.MaxInt}, {math.MinInt}, {0, math.MaxInt},
	make([]int, 25), slices.Repeat([]int{1}, 25), slices.Repeat([]int{-1, 0}, 100000), append(make([]int, 23), 2), append([]int{-2}, make([]int, 23)...),
}

// wrongWalkers returns those that are no Walkers on a road, each for one reason only.
func wrongWalkers(r impl.Road) []impl.Walker {
	walkers := []impl.Walker{{}, {Start: 1}, {Facing: 1}, {Moves: []int{1}}}
	for _, p := range wrongPlaces(r) {
		if p < 0 || p >= r.Size {
			walkers = append(walkers, goer(p, 1), goer(p, 0))
		}
	}
	for _, facing := range []int{0, 2, -2, 3, 10, math.MaxInt, math.MinInt} {
		walkers = append(walkers, impl.Walker{Facing: facing, Moves: []int{1}}, impl.Walker{Start: 1, Facing: facing, Delay: 60, Moves: []int{0}})
	}
	for _, delay := range []int{-1, 61, 62, -60, 1000, math.MaxInt, math.MinInt} {
		walkers = append(walkers, impl.Walker{Facing: 1, Delay: delay, Moves: []int{1}}, impl.Walker{Start: 1, Facing: -1, Delay: delay, Moves: []int{0}})
	}
	for _, moves := range wrongMoves {
		walkers = append(walkers, goer(0, moves...), impl.Walker{Start: 1, Facing: -1, Delay: 60, Moves: moves})
	}
	return walkers
}

func wantTable(t *testing.T, got [][]int, ok bool, want [][]int) {
	t.Helper()
	if !ok || !slices.EqualFunc(got, want, slices.Equal[[]int]) {
		t.Errorf("MeetTable = %v, %v; want %v, true", got, ok, want)
	}
}

func wantNoTable(t *testing.T, got [][]int, ok bool) {
	t.Helper()
	if ok || len(got) != 0 {
		t.Errorf("MeetTable = %v, %v; want none, false", got, ok)
	}
}

func wantIsWalker(t *testing.T, r impl.Road, w impl.Walker, want bool, fine bool) {
	t.Helper()
	if is, ok := impl.IsWalker(r, w); is != want || ok != fine {
		t.Errorf("IsWalker(%v, %.100v) = %v, %v; want %v, %v", r, w, is, ok, want, fine)
	}
}

func TestLimitsOfMeetings(t *testing.T) {
	got := []int{impl.MaxMoves, impl.MaxGroup, impl.MaxLabel, impl.MaxSmall, impl.MaxTry}
	if !slices.Equal(got, []int{24, 4, 6, 6, 3}) {
		t.Error("limits", got)
	}
}

func TestIsWalker(t *testing.T) {
	for _, r := range allRoads(24) {
		for _, w := range someWalkers(r) {
			for p := range r.Size {
				wantIsWalker(t, r, from(w, p), true, true)
			}
		}
		for _, w := range wrongWalkers(r) {
			wantIsWalker(t, r, w, false, true)
		}
	}
	for _, r := range wrongRoads {
		for _, w := range []impl.Walker{{}, goer(0, 1), goer(1, 0), goer(-1, 1)} {
			wantIsWalker(t, r, w, false, false)
		}
	}
}

// TestWalkersOfAllNumbers takes each field through all numbers about its limits.
func TestWalkersOfAllNumbers(t *testing.T) {
	for n := -70; n <= 70; n++ {
		wantIsWalker(t, line(24), goer(n, 1), n >= 0 && n <= 23, true)
		wantIsWalker(t, ring(7), goer(n, 1), n >= 0 && n <= 6, true)
		wantIsWalker(t, line(2), impl.Walker{Facing: n, Moves: []int{1}}, n == 1 || n == -1, true)
		wantIsWalker(t, ring(3), impl.Walker{Facing: 1, Delay: n, Moves: []int{1}}, n >= 0 && n <= 60, true)
		wantIsWalker(t, line(5), goer(0, n), n >= -1 && n <= 1, true)
		wantIsWalker(t, line(5), goer(0, 1, 0, n), n >= -1 && n <= 1, true)
		wantIsWalker(t, line(5), goer(0, make([]int, max(n, 0))...), n >= 1 && n <= 24, true)
	}
}

func TestWalkOfKnown(t *testing.T) {
	known := []struct {
		road impl.Road
		w    impl.Walker
		want []int
	}{
		{line(3), goer(1, 1), []int{1, 2, 2, 2}}, {line(3), goer(1, -1), []int{1, 0, 0, 0}}, {line(3), goer(1, 0), []int{1, 1, 1, 1}},
		{ring(3), goer(1, 1), []int{1, 2, 0, 1, 2}}, {ring(3), goer(1, -1), []int{1, 0, 2, 1, 0}}, {ring(3), impl.Walker{Start: 1, Facing: -1, Moves: []int{1}}, []int{1, 0, 2, 1, 0}},
		{ring(3), impl.Walker{Start: 0, Facing: -1, Moves: []int{-1, 0}}, []int{0, 1, 1, 2, 2, 0, 0}}, {line(2), goer(0, 1, -1), []int{0, 1, 0, 1, 0}}, {line(2), goer(1, 1, -1), []int{1, 1, 0, 1, 0}},
		{line(2), goer(0, -1, -1, 1), []int{0, 0, 0, 1, 0, 0, 1}}, {line(2), impl.Walker{Start: 1, Facing: -1, Delay: 2, Moves: []int{1, 0, -1}}, []int{1, 1, 1, 0, 0, 1, 0}},
		{line(4), impl.Walker{Start: 1, Facing: 1, Delay: 3, Moves: []int{1, 1, -1}}, []int{1, 1, 1, 1, 2, 3, 2, 3, 3, 2, 3}}, {line(4), goer(3, 1, -1, -1), []int{3, 3, 2, 1, 2, 1, 0, 1, 0, 0}},
		{ring(24), goer(23, 1), []int{23, 0, 1}}, {ring(24), goer(0, -1), []int{0, 23, 22}}, {line(24), goer(23, 1), []int{23, 23}}, {line(24), goer(5, 1), []int{5}},
		{ring(5), impl.Walker{Start: 2, Facing: 1, Delay: 5, Moves: []int{1}}, []int{2, 2, 2, 2, 2, 2, 3, 4, 0}},
	}
	for _, k := range known {
		got, ok := impl.WalkOf(k.road, k.w, len(k.want)-1)
		wantList(t, "WalkOf", got, ok, k.want)
	}
}

func TestWalksStepByStep(t *testing.T) {
	for _, r := range allRoads(24) {
		for _, w := range someWalkers(r) {
			for n := 0; n <= 60; n++ {
				got, ok := impl.WalkOf(r, w, n)
				wantList(t, "WalkOf", got, ok, followed(r, w, n))
			}
			walk, _ := impl.WalkOf(r, w, 60)
			if is, ok := impl.IsWalk(r, walk); !is || !ok || walk[0] != w.Start {
				t.Errorf("%v is no walk on %v of %v", walk, r, w)
			}
			for _, n := range []int{-1, 61, 62, -60, 1000, math.MaxInt, math.MinInt} {
				got, ok := impl.WalkOf(r, w, n)
				wantNoList(t, "WalkOf", got, ok)
			}
		}
	}
}

// TestDelays holds that a Walker stays until its Delay, also beyond all of its moves, and then begins with the first one.
func TestDelays(t *testing.T) {
	for _, moves := range someMoves() {
		begun := followed(ring(7), goer(3, moves...), 60)
		for delay := range 61 {
			w := impl.Walker{Start: 3, Facing: 1, Delay: delay, Moves: moves}
			got, ok := impl.WalkOf(ring(7), w, 60)
			wantList(t, "WalkOf", got, ok, append(slices.Repeat([]int{3}, delay), begun[:61-delay]...))
		}
	}
}

// checkMeet holds what is told of the meeting of two Walkers against following them.
func checkMeet(t *testing.T, r impl.Road, a impl.Walker, b impl.Walker) {
	t.Helper()
	wantTime, wantPlace := meetingOf(r, a, b)
	for _, pair := range [][]impl.Walker{{a, b}, {b, a}} {
		time, met := impl.MeetTime(r, pair[0], pair[1])
		place, at := impl.MeetPlace(r, pair[0], pair[1])
		gather, ok := impl.GatherTime(r, pair)
		if met != (wantTime >= 0) || at != met || ok != met || time != max(0, wantTime) || place != max(0, wantPlace) || gather != time {
			t.Errorf("on %v %v and %v meet at %d, %v, in %d, %v, gather at %d, %v; want %d in %d", r, a, b, time, met, place, at, gather, ok, wantTime, wantPlace)
		}
	}
}

// checkMeetOfWalks holds the promise that Walkers meet where their walks do.
func checkMeetOfWalks(t *testing.T, r impl.Road, a impl.Walker, b impl.Walker) {
	t.Helper()
	one, _ := impl.WalkOf(r, a, 60)
	other, _ := impl.WalkOf(r, b, 60)
	times, ok := impl.MeetTimes(r, one, other)
	time, met := impl.MeetTime(r, a, b)
	place, _ := impl.MeetPlace(r, a, b)
	if !ok || met != (len(times) > 0) || met && (time != times[0] || place != one[time] || place != other[time]) {
		t.Errorf("on %v %v and %v meet at %d in %d, %v; their walks at %v", r, a, b, time, place, met, times)
	}
}

func TestWalkersMeetWhereWalksDo(t *testing.T) {
	for _, r := range allRoads(24) {
		walkers := someWalkers(r)
		for i, a := range walkers {
			for _, b := range walkers[:i+1] {
				checkMeet(t, r, a, b)
				checkMeetOfWalks(t, r, a, b)
			}
		}
	}
}

// TestShortPlansMeet takes all moves of at most 3, of both Walkers, from all places of small roads.
func TestShortPlansMeet(t *testing.T) {
	for _, r := range allRoads(4) {
		for _, one := range movesUpTo(2) {
			for _, two := range movesUpTo(3) {
				for p := range r.Size {
					for q := range r.Size {
						checkMeet(t, r, goer(p, one...), goer(q, two...))
					}
				}
			}
		}
	}
}

// movesUpTo returns all lists of 1..n moves.
func movesUpTo(n int) [][]int {
	lists := [][]int{{}}
	for i := 0; i < len(lists); i++ {
		for move := -1; move <= 1 && len(lists[i]) < n; move++ {
			lists = append(lists, append(slices.Clone(lists[i]), move))
		}
	}
	return lists[1:]
}

func TestMeetingsOfWalkersKnown(t *testing.T) {
	late := func(delay int) impl.Walker { return impl.Walker{Facing: 1, Delay: delay, Moves: []int{1}} }
	known := []struct {
		name        string
		road        impl.Road
		a, b        impl.Walker
		time, place int
	}{
		{"the same Start", line(5), goer(3, 1), goer(3, -1), 0, 3}, {"the same Walker", ring(5), goer(3, 1), goer(3, 1), 0, 3},
		{"one stays", ring(5), goer(0, 1), goer(2, 0), 2, 2}, {"towards each other", line(5), goer(0, 1), goer(4, -1), 2, 2}, {"round the ring", ring(5), goer(4, 1), goer(1, -1), 1, 0},
		{"passing", line(2), goer(0, 1, -1), goer(1, -1, 1), -1, -1}, {"passing on a line", line(4), goer(1, 1, -1), goer(2, -1, 1), -1, -1}, {"passing on a ring", ring(4), goer(0, 1), goer(1, -1), -1, -1},
		{"passing, then meeting at the end", line(4), goer(0, 1), goer(3, -1, -1, -1, 1, 1, 1), 6, 3},
		{"equal on a ring", ring(6), goer(0, 1, 0), goer(3, 1, 0), -1, -1}, {"equal on a line", line(6), goer(0, 1), goer(3, 1), 5, 5}, {"never going", line(2), goer(0, 0), goer(1, 0), -1, -1},
		{"two places", line(2), goer(0, 1), goer(1, 1), 1, 1}, {"at MaxTime", line(5), late(59), goer(1, 0), 60, 1}, {"behind MaxTime", line(5), late(60), goer(1, 0), -1, -1},
		{"at MaxTime far off", line(24), late(37), goer(23, 0), 60, 23}, {"behind MaxTime far off", line(24), late(38), goer(23, 0), -1, -1}, {"both late", line(5), late(60), from(late(60), 1), -1, -1},
		{"the other Facing", ring(5), impl.Walker{Start: 3, Facing: -1, Moves: []int{1}}, goer(0, 1), 4, 4}, {"beyond both ends", line(3), goer(0, -1, -1, 1), goer(2, 1, 1, -1), 3, 1},
	}
	for _, k := range known {
		time, met := impl.MeetTime(k.road, k.a, k.b)
		place, at := impl.MeetPlace(k.road, k.a, k.b)
		if met != (k.time >= 0) || at != met || time != max(0, k.time) || place != max(0, k.place) {
			t.Errorf("%s: at %d, %v, in %d, %v; want %d in %d", k.name, time, met, place, at, k.time, k.place)
		}
	}
}

// TestEqualWalkersOnRings holds that Walkers never meet that differ in their Starts alone.
func TestEqualWalkersOnRings(t *testing.T) {
	for size := 3; size <= 24; size++ {
		for _, w := range someWalkers(ring(size)) {
			for p := range size {
				time, ok := impl.MeetTime(ring(size), w, from(w, p))
				place, at := impl.MeetPlace(ring(size), w, from(w, p))
				if met := p == w.Start; ok != met || at != met || time != 0 || met && place != p || !met && place != 0 {
					t.Errorf("%v and from %d: %d, %v, in %d, %v", w, p, time, ok, place, at)
				}
			}
		}
	}
}

// checkGather holds the time of a group against following it, and against the times of any two.
func checkGather(t *testing.T, r impl.Road, group []impl.Walker) {
	t.Helper()
	want, _ := meetingOf(r, group...)
	time, ok := impl.GatherTime(r, group)
	if want < 0 {
		wantNoNumber(t, "GatherTime", time, ok)
		return
	}
	wantNumber(t, "GatherTime", time, ok, want)
	for _, a := range group {
		for _, b := range group {
			if two, ok := impl.MeetTime(r, a, b); !ok || two > time {
				t.Errorf("%v gather at %d, two of them at %d, %v", group, time, two, ok)
			}
		}
	}
}

func TestGroups(t *testing.T) {
	for _, r := range allRoads(24) {
		walkers := someWalkers(r)
		for i := range 2000 {
			group := []impl.Walker{}
			for k := range 2 + i%3 {
				group = append(group, walkers[(i*(7+4*k)+i*i/9+k)%len(walkers)])
			}
			checkGather(t, r, group)
		}
	}
}

func TestGroupsKnown(t *testing.T) {
	r := line(7)
	known := []struct {
		group []impl.Walker
		want  int
	}{
		{[]impl.Walker{goer(0, 1), goer(2, 0)}, 2}, {[]impl.Walker{goer(0, 1), goer(2, 0), goer(4, -1)}, 2}, {[]impl.Walker{goer(0, 1), goer(2, 0), goer(4, -1), goer(2, 0)}, 2},
		{[]impl.Walker{goer(5, 1), goer(5, 1), goer(5, -1), goer(5, 0)}, 0}, {[]impl.Walker{goer(0, 1), goer(1, 1), goer(2, 1), goer(3, 1)}, 6},
		{[]impl.Walker{goer(0, 1, 1, 1, 1, 0, 0), goer(2, 0), goer(4, 0)}, -1}, {[]impl.Walker{goer(3, 0), goer(3, 0), goer(3, 0), goer(4, 0)}, -1}, {[]impl.Walker{goer(4, 0), goer(3, 0), goer(3, 0)}, -1},
		{[]impl.Walker{goer(3, 0), {Start: 2, Facing: 1, Delay: 59, Moves: []int{1}}, {Start: 4, Facing: -1, Delay: 59, Moves: []int{1}}}, 60},
		{[]impl.Walker{goer(3, 0), goer(3, 0), {Start: 4, Facing: -1, Delay: 60, Moves: []int{1}}}, -1},
	}
	for _, k := range known {
		if time, ok := impl.GatherTime(r, k.group); ok != (k.want >= 0) || time != max(0, k.want) {
			t.Errorf("GatherTime(%v) = %d, %v; want %d", k.group, time, ok, k.want)
		}
	}
}

// TestPairsMeetButNotTheGroup takes Walkers any two of whom meet, but never all of them.
func TestPairsMeetButNotTheGroup(t *testing.T) {
	group := []impl.Walker{goer(0, 1, -1), goer(1, 0), goer(2, 0, -1, -1)}
	for _, k := range [][3]int{{0, 1, 1}, {1, 2, 2}, {0, 2, 4}} {
		time, ok := impl.MeetTime(line(3), group[k[0]], group[k[1]])
		wantNumber(t, "MeetTime", time, ok, k[2])
	}
	for _, all := range [][]impl.Walker{group, append(slices.Clone(group), group[0])} {
		time, ok := impl.GatherTime(line(3), all)
		wantNoNumber(t, "GatherTime", time, ok)
	}
	for _, a := range movesUpTo(3) {
		for _, b := range movesUpTo(3) {
			checkGather(t, line(3), []impl.Walker{goer(0, a...), goer(1, b...), goer(2, 0)})
		}
	}
}

func TestGroupsOfOtherSizes(t *testing.T) {
	same := slices.Repeat([]impl.Walker{goer(1, 1)}, 1000)
	for _, r := range []impl.Road{line(2), line(24), ring(3), ring(24)} {
		for _, n := range []int{0, 1, 2, 3, 4, 5, 6, 1000} {
			time, ok := impl.GatherTime(r, same[:n])
			if n >= 2 && n <= 4 {
				wantNumber(t, "GatherTime", time, ok, 0)
			} else {
				wantNoNumber(t, "GatherTime", time, ok)
			}
		}
		time, ok := impl.GatherTime(r, nil)
		wantNoNumber(t, "GatherTime", time, ok)
	}
}

func TestTablesKnown(t *testing.T) {
	known := []struct {
		road  impl.Road
		a, b  impl.Walker
		want  [][]int
		worst int
	}{
		{ring(3), goer(0, 1), goer(2, 0), [][]int{{0, 1, 2}, {2, 0, 1}, {1, 2, 0}}, 2}, {ring(3), goer(2, 0), goer(2, 1), [][]int{{0, 2, 1}, {1, 0, 2}, {2, 1, 0}}, 2},
		{ring(3), goer(0, 1), goer(0, 1), [][]int{{0, -1, -1}, {-1, 0, -1}, {-1, -1, 0}}, -1}, {ring(4), goer(0, 1), goer(3, -1), [][]int{{0, -1, 1, -1}, {-1, 0, -1, 1}, {1, -1, 0, -1}, {-1, 1, -1, 0}}, -1},
		{line(2), goer(0, 1), goer(0, 0), [][]int{{0, 1}, {-1, 0}}, -1}, {line(2), goer(1, -1), goer(0, -1), [][]int{{0, 1}, {1, 0}}, 1}, {line(2), goer(0, 0), goer(0, 0), [][]int{{0, -1}, {-1, 0}}, -1},
		{line(3), goer(1, 1), goer(1, -1), [][]int{{0, -1, 1}, {-1, 0, -1}, {-1, -1, 0}}, -1}, {line(3), goer(1, 1), goer(2, 1), [][]int{{0, 2, 2}, {2, 0, 1}, {2, 1, 0}}, 2},
	}
	for _, k := range known {
		table, ok := impl.MeetTable(k.road, k.a, k.b)
		wantTable(t, table, ok, k.want)
		worst, ok := impl.WorstMeet(k.road, k.a, k.b)
		if k.worst < 0 {
			wantNoNumber(t, "WorstMeet", worst, ok)
		} else {
			wantNumber(t, "WorstMeet", worst, ok, k.worst)
		}
	}
}

func TestTablesStepByStep(t *testing.T) {
	for _, r := range []impl.Road{line(2), line(3), line(5), line(10), line(24), ring(3), ring(4), ring(5), ring(11), ring(24)} {
		walkers := someWalkers(r)
		for i := range 300 {
			checkTable(t, r, walkers[i*13%len(walkers)], walkers[(i*i+i/7)%len(walkers)])
		}
	}
	for _, r := range allRoads(4) {
		for _, one := range movesUpTo(3) {
			for _, two := range movesUpTo(2) {
				checkTable(t, r, goer(1, one...), goer(0, two...))
			}
		}
	}
}

// checkTable holds a table and its greatest number against following both Walkers from all places.
func checkTable(t *testing.T, r impl.Road, a impl.Walker, b impl.Walker) {
	t.Helper()
	want, greatest := tableByWords(r, a, b)
	table, ok := impl.MeetTable(r, a, b)
	wantTable(t, table, ok, want)
	for p := range table {
		if table[p][p] != 0 {
			t.Errorf("%d stands at the diagonal of %v", table[p][p], table)
		}
	}
	worst, ok := impl.WorstMeet(r, a, b)
	if greatest < 0 {
		wantNoNumber(t, "WorstMeet", worst, ok)
	} else {
		wantNumber(t, "WorstMeet", worst, ok, greatest)
	}
}

// allLabels returns all labels of at most so many bits.
func allLabels(most int) [][]int {
	labels := [][]int{{}}
	for i := 0; i < len(labels); i++ {
		for bit := 0; bit <= 1 && len(labels[i]) < most; bit++ {
			labels = append(labels, append(slices.Clone(labels[i]), bit))
		}
	}
	return labels[1:]
}

// wrongLabels are lists that are no labels.
var wrongLabels = [][]int{
	nil, {}, {2}, {-1}, {0, 2}, {-1, 1}, {1, 0, 1, 7}, {0, 1, 0, 1, 0, 2}, {math.MaxInt}, {math.MinInt}, {0, 0, 0, 0, 0, 0, 0}, {1, 1, 1, 1, 1, 1, 1}, make([]int, 24), make([]int, 100000),
}

// labelMovesByWords returns n moves for each bit, in order.
func labelMovesByWords(label []int, n int) []int {
	moves := []int{}
	for i := range len(label) * n {
		moves = append(moves, label[i/n])
	}
	return moves
}

func TestLabelMoves(t *testing.T) {
	for _, label := range allLabels(6) {
		for n := 1; n <= 30; n++ {
			moves, ok := impl.LabelMoves(label, n)
			if n*len(label) <= 24 {
				wantList(t, "LabelMoves", moves, ok, labelMovesByWords(label, n))
			} else {
				wantNoList(t, "LabelMoves", moves, ok)
			}
		}
		for _, n := range []int{0, -1, -2, -24, 25, 1000, math.MaxInt, math.MinInt, 1 << 62, 1 << 63 / 3 * 2, math.MaxInt/len(label) + 1} {
			moves, ok := impl.LabelMoves(label, n)
			wantNoList(t, "LabelMoves", moves, ok)
		}
	}
	for _, label := range wrongLabels {
		for _, n := range []int{1, 2, 3, 0, -1, 24} {
			moves, ok := impl.LabelMoves(label, n)
			wantNoList(t, "LabelMoves", moves, ok)
		}
	}
}

func TestLabelMovesKnown(t *testing.T) {
	known := []struct {
		label []int
		n     int
		want  []int
	}{
		{[]int{1, 0}, 2, []int{1, 1, 0, 0}}, {[]int{1}, 1, []int{1}}, {[]int{0}, 1, []int{0}}, {[]int{0, 1, 1}, 1, []int{0, 1, 1}}, {[]int{0}, 3, []int{0, 0, 0}},
		{[]int{1}, 24, slices.Repeat([]int{1}, 24)}, {[]int{1, 0, 0, 1, 1, 0}, 1, []int{1, 0, 0, 1, 1, 0}}, {[]int{0, 1}, 12, append(make([]int, 12), slices.Repeat([]int{1}, 12)...)},
	}
	for _, k := range known {
		moves, ok := impl.LabelMoves(k.label, k.n)
		wantList(t, "LabelMoves", moves, ok, k.want)
	}
}

// TestDifferentLabelsMeetWithinABlock holds the promise of all pairs of labels on all rings.
func TestDifferentLabelsMeetWithinABlock(t *testing.T) {
	for size := 3; size <= 24; size++ {
		for _, one := range allLabels(6) {
			for _, two := range allLabels(6) {
				checkLabels(t, size, one, two)
			}
		}
	}
}

// firstDifference returns the first bit at which two labels of one length differ, -1 if there is none.
func firstDifference(one []int, two []int) int {
	for i := range one {
		if one[i] != two[i] {
			return i
		}
	}
	return -1
}

func checkLabels(t *testing.T, size int, one []int, two []int) {
	t.Helper()
	time, ok := impl.LabelTime(ring(size), one, two)
	if len(one) != len(two) || size*len(one) > 24 || slices.Equal(one, two) {
		wantNoNumber(t, "LabelTime", time, ok)
		return
	}
	i := firstDifference(one, two)
	if !ok || time < i*size || time >= (i+1)*size {
		t.Errorf("LabelTime(ring of %d, %v, %v) = %d, %v", size, one, two, time, ok)
	}
	_, want := tableByWords(ring(size), goer(0, labelMovesByWords(one, size)...), goer(0, labelMovesByWords(two, size)...))
	wantNumber(t, "LabelTime", time, ok, want)
}

func TestLabelTimeKnown(t *testing.T) {
	known := []struct {
		size     int
		one, two []int
		want     int
	}{
		{3, []int{1}, []int{0}, 2}, {3, []int{0}, []int{1}, 2}, {24, []int{1}, []int{0}, 23}, {4, []int{0, 1}, []int{0, 0}, 7}, {4, []int{0, 1}, []int{1, 0}, 3}, {4, []int{1, 1}, []int{0, 1}, 3},
		{4, []int{1, 0, 1, 0, 0, 1}, []int{1, 0, 1, 0, 0, 0}, 23}, {12, []int{1, 1}, []int{1, 0}, 23}, {8, []int{1, 0, 0}, []int{1, 0, 1}, 23}, {3, []int{0, 0, 0, 0, 0, 1}, []int{0, 0, 0, 0, 0, 0}, 17},
	}
	for _, k := range known {
		time, ok := impl.LabelTime(ring(k.size), k.one, k.two)
		wantNumber(t, "LabelTime", time, ok, k.want)
	}
}

func TestLabelTimeOfOthers(t *testing.T) {
	// On lines, Walkers that both go meet at the end, so that only the road is wrong here.
	for size := 2; size <= 24; size++ {
		for _, pair := range [][2][]int{{{1}, {0}}, {{0}, {1}}, {{1}, {1}}, {{0, 1}, {0, 0}}, {{0, 1}, {1, 0}}, {{1, 1}, {0, 1}}, {{1, 0, 1}, {1, 1, 1}}} {
			time, ok := impl.LabelTime(line(size), pair[0], pair[1])
			wantNoNumber(t, "LabelTime on a line", time, ok)
		}
	}
	for _, r := range wrongRoads {
		time, ok := impl.LabelTime(r, []int{1}, []int{0})
		wantNoNumber(t, "LabelTime on no road", time, ok)
	}
	for _, label := range wrongLabels {
		others := [][]int{label, {0}, {1}, {1, 0}, {1, 0, 1, 0}}
		for _, other := range others {
			for _, pair := range [][2][]int{{label, other}, {other, label}} {
				time, ok := impl.LabelTime(ring(3), pair[0], pair[1])
				wantNoNumber(t, "LabelTime of no labels", time, ok)
			}
		}
	}
}

func TestDoubleLabel(t *testing.T) {
	known := []struct{ label, want []int }{
		{[]int{0}, []int{0, 0, 0, 1}}, {[]int{1}, []int{1, 1, 0, 1}}, {[]int{1, 0}, []int{1, 1, 0, 0, 0, 1}}, {[]int{0, 1}, []int{0, 0, 1, 1, 0, 1}}, {[]int{0, 0}, []int{0, 0, 0, 0, 0, 1}}, {[]int{1, 1}, []int{1, 1, 1, 1, 0, 1}},
	}
	doubles := [][]int{}
	for _, k := range known {
		double, ok := impl.DoubleLabel(k.label)
		wantList(t, "DoubleLabel", double, ok, k.want)
		doubles = append(doubles, double)
	}
	for _, label := range append(slices.Clone(wrongLabels), allLabels(6)...) {
		double, ok := impl.DoubleLabel(label)
		if is := slices.ContainsFunc(known, func(k struct{ label, want []int }) bool { return slices.Equal(k.label, label) }); !is {
			wantNoList(t, "DoubleLabel", double, ok)
		}
	}
	checkNoBeginnings(t, doubles)
}

// checkNoBeginnings holds that no label is the beginning of another one.
func checkNoBeginnings(t *testing.T, labels [][]int) {
	t.Helper()
	for i, a := range labels {
		for k, b := range labels {
			if i != k && len(a) <= len(b) && slices.Equal(a, b[:len(a)]) {
				t.Errorf("%v is the beginning of %v", a, b)
			}
		}
	}
}

// TestMirrorWalker holds that a mirrored Walker goes the mirrored walk, and meets others at the same times.
func TestMirrorWalker(t *testing.T) {
	for _, r := range allRoads(24) {
		walkers := someWalkers(r)
		for i, w := range walkers {
			mirrored, ok := impl.MirrorWalker(r, w)
			want := impl.Walker{Start: r.Size - 1 - w.Start, Facing: -w.Facing, Delay: w.Delay, Moves: w.Moves}
			if !ok || !reflect.DeepEqual(mirrored, want) {
				t.Errorf("MirrorWalker(%v, %v) = %v, %v", r, w, mirrored, ok)
			}
			walk, _ := impl.WalkOf(r, w, 60)
			mirrorWalk, _ := impl.MirrorWalk(r, walk)
			got, ok := impl.WalkOf(r, mirrored, 60)
			wantList(t, "WalkOf the mirrored", got, ok, mirrorWalk)
			again, ok := impl.MirrorWalker(r, mirrored)
			if !ok || !reflect.DeepEqual(again, w) {
				t.Errorf("%v is mirrored twice to %v, %v", w, again, ok)
			}
			other := walkers[(i*7+3)%len(walkers)]
			checkMirrored(t, r, w, other)
		}
	}
}

func checkMirrored(t *testing.T, r impl.Road, a impl.Walker, b impl.Walker) {
	t.Helper()
	one, _ := impl.MirrorWalker(r, a)
	other, _ := impl.MirrorWalker(r, b)
	time, ok := impl.MeetTime(r, a, b)
	mirrorTime, fine := impl.MeetTime(r, one, other)
	place, _ := impl.MeetPlace(r, a, b)
	mirrorPlace, _ := impl.MeetPlace(r, one, other)
	if ok != fine || time != mirrorTime || ok && place != r.Size-1-mirrorPlace {
		t.Errorf("%v and %v meet at %d in %d, %v; mirrored at %d in %d, %v", a, b, time, place, ok, mirrorTime, mirrorPlace, fine)
	}
	worst, ok := impl.WorstMeet(r, a, b)
	mirrorWorst, fine := impl.WorstMeet(r, one, other)
	if ok != fine || worst != mirrorWorst {
		t.Errorf("%v and %v meet within %d, %v; mirrored within %d, %v", a, b, worst, ok, mirrorWorst, fine)
	}
}

// plansOf returns all moves of a length in order.
func plansOf(length int) [][]int {
	plans := slices.DeleteFunc(movesUpTo(length), func(moves []int) bool { return len(moves) != length })
	slices.SortFunc(plans, slices.Compare[[]int])
	return plans
}

// bestByTrying returns the first pair of plans with the least worst time, by trying all of them, and this time; -1 if there is none.
func bestByTrying(r impl.Road, length int) ([]int, []int, int) {
	var first, second []int
	least := -1
	for _, one := range plansOf(length) {
		for _, two := range plansOf(length) {
			if worst := worstOfPlans(r, one, two); worst >= 0 && (least < 0 || worst < least) {
				first, second, least = one, two, worst
			}
		}
	}
	return first, second, least
}

// worstOfPlans returns the worst time of a pair of plans, -1 if they do not meet for some Starts.
func worstOfPlans(r impl.Road, one []int, two []int) int {
	worst := 0
	for p := range r.Size {
		for q := range r.Size {
			if p == q {
				continue
			}
			time, _ := meetingOf(r, goer(p, one...), goer(q, two...))
			if time < 0 {
				return -1
			}
			worst = max(worst, time)
		}
	}
	return worst
}

func wantPlans(t *testing.T, r impl.Road, length int, first []int, second []int, least int) {
	t.Helper()
	one, two, time, ok := impl.BestPlans(r, length)
	if !ok || !slices.Equal(one, first) || !slices.Equal(two, second) || time != least {
		t.Errorf("BestPlans(%v, %d) = %v, %v, %d, %v; want %v, %v, %d", r, length, one, two, time, ok, first, second, least)
	}
}

func wantNoPlans(t *testing.T, r impl.Road, length int) {
	t.Helper()
	one, two, time, ok := impl.BestPlans(r, length)
	if ok || len(one) != 0 || len(two) != 0 || time != 0 {
		t.Errorf("BestPlans(%v, %d) = %v, %v, %d, %v; want none", r, length, one, two, time, ok)
	}
}

// TestBestPlans tries all pairs of plans on all roads of at most 6 places; there is none at all on longer ones.
// A pair always meets, as two Walkers that both go to an end of a line, or one that stays and one that goes on a ring.
func TestBestPlans(t *testing.T) {
	for _, r := range allRoads(24) {
		for length := 1; length <= 3; length++ {
			if r.Size > 6 {
				wantNoPlans(t, r, length)
				continue
			}
			first, second, least := bestByTrying(r, length)
			if least < 0 {
				wantNoPlans(t, r, length)
			} else {
				wantPlans(t, r, length, first, second, least)
			}
		}
		for _, length := range []int{0, -1, -3, 4, 5, 24, 60, math.MaxInt, math.MinInt} {
			wantNoPlans(t, r, length)
		}
	}
	for _, r := range wrongRoads {
		for length := 0; length <= 4; length++ {
			wantNoPlans(t, r, length)
		}
	}
}

func TestBestPlansKnown(t *testing.T) {
	wantPlans(t, line(2), 1, []int{-1}, []int{-1}, 1)
	wantPlans(t, line(6), 1, []int{-1}, []int{-1}, 5)
	wantPlans(t, ring(3), 1, []int{-1}, []int{0}, 2)
	wantPlans(t, ring(6), 1, []int{-1}, []int{0}, 5)
	for _, r := range []impl.Road{line(7), ring(7), line(24), ring(24)} {
		wantNoPlans(t, r, 1)
	}
}

// TestPlansOfMultiples holds that plans of a length that is a multiple of another one have no greater time.
func TestPlansOfMultiples(t *testing.T) {
	for _, r := range allRoads(6) {
		_, _, one, ok := impl.BestPlans(r, 1)
		for length := 2; length <= 3; length++ {
			first, second, more, fine := impl.BestPlans(r, length)
			if !ok || !fine || more > one {
				t.Errorf("on %v %d moves meet within %d, one within %d", r, length, more, one)
			}
			worst, met := impl.WorstMeet(r, goer(0, first...), goer(0, second...))
			wantNumber(t, "WorstMeet of the best plans", worst, met, more)
		}
	}
}

// TestWalkersThatAreNot gives wrong Walkers, on right roads, and right Walkers on wrong roads, to all functions.
func TestWalkersThatAreNot(t *testing.T) {
	for _, r := range []impl.Road{line(2), line(3), line(24), ring(3), ring(24)} {
		for _, w := range wrongWalkers(r) {
			checkNoWalker(t, r, w)
		}
	}
	for _, r := range wrongRoads {
		for _, w := range []impl.Walker{{}, goer(0, 1), goer(1, -1), goer(0, 0), goer(-1, 1)} {
			checkNoWalker(t, r, w)
		}
	}
}

func checkNoWalker(t *testing.T, r impl.Road, w impl.Walker) {
	t.Helper()
	walk, ok := impl.WalkOf(r, w, 5)
	wantNoList(t, "WalkOf", walk, ok)
	walk, ok = impl.WalkOf(r, w, 0)
	wantNoList(t, "WalkOf", walk, ok)
	mirrored, ok := impl.MirrorWalker(r, w)
	if ok || mirrored.Start != 0 || mirrored.Facing != 0 || mirrored.Delay != 0 || len(mirrored.Moves) != 0 {
		t.Errorf("MirrorWalker(%v, %.100v) = %v, %v", r, w, mirrored, ok)
	}
	right := goer(0, 1)
	for _, pair := range [][]impl.Walker{{w, right}, {right, w}, {w, w}} {
		time, ok := impl.MeetTime(r, pair[0], pair[1])
		wantNoNumber(t, "MeetTime", time, ok)
		place, ok := impl.MeetPlace(r, pair[0], pair[1])
		wantNoNumber(t, "MeetPlace", place, ok)
		worst, ok := impl.WorstMeet(r, pair[0], pair[1])
		wantNoNumber(t, "WorstMeet", worst, ok)
		table, ok := impl.MeetTable(r, pair[0], pair[1])
		wantNoTable(t, table, ok)
		time, ok = impl.GatherTime(r, pair)
		wantNoNumber(t, "GatherTime", time, ok)
		for _, group := range [][]impl.Walker{append(slices.Clone(pair), right), {right, right, right, w}, {right, w, right}} {
			time, ok = impl.GatherTime(r, group)
			wantNoNumber(t, "GatherTime", time, ok)
		}
	}
}

// TestMeetingsAreKeptApart changes results and looks whether arguments or later results have changed with them.
func TestMeetingsAreKeptApart(t *testing.T) {
	r := ring(4)
	long := []int{7, 1, 0, -1, 7, 1, 0, 7, 1, 1, 7}
	before := slices.Clone(long)
	a, b := goer(0, long[1:4]...), impl.Walker{Start: 2, Facing: -1, Delay: 1, Moves: long[8:10]}
	group := []impl.Walker{a, b, a}
	calls := map[string]func() []int{
		"WalkOf":       func() []int { list, _ := impl.WalkOf(r, a, 9); return list },
		"LabelMoves":   func() []int { list, _ := impl.LabelMoves(long[5:7], 3); return list },
		"LabelMoves 1": func() []int { list, _ := impl.LabelMoves(long[5:7], 1); return list },
		"DoubleLabel":  func() []int { list, _ := impl.DoubleLabel(long[5:7]); return list },
		"MirrorWalker": func() []int { w, _ := impl.MirrorWalker(r, a); return w.Moves },
		"first plan":   func() []int { list, _, _, _ := impl.BestPlans(r, 2); return list },
		"second plan":  func() []int { _, list, _, _ := impl.BestPlans(r, 2); return list },
	}
	for name, call := range calls {
		one := call()
		want := slices.Clone(one)
		spoil(one)
		if two := call(); len(want) == 0 || !slices.Equal(two, want) || !slices.Equal(long, before) {
			t.Errorf("%s: %v, then %v, of %v", name, want, two, long)
		}
	}
	impl.IsWalker(r, a)
	impl.MeetTime(r, a, b)
	impl.MeetPlace(r, a, b)
	impl.GatherTime(r, group)
	impl.MeetTable(r, a, b)
	impl.WorstMeet(r, a, b)
	impl.LabelTime(r, long[5:7], long[8:10])
	if !slices.Equal(long, before) || !reflect.DeepEqual(group, []impl.Walker{a, b, a}) || b.Start != 2 || b.Facing != -1 || b.Delay != 1 {
		t.Error("arguments have changed:", long, group)
	}
}

// TestListsOfOneResultAreKeptApart changes one list of a result and looks at the others.
func TestListsOfOneResultAreKeptApart(t *testing.T) {
	table, _ := impl.MeetTable(ring(5), goer(0, 1), goer(0, 0))
	want, _ := tableByWords(ring(5), goer(0, 1), goer(0, 0))
	for i := range table {
		spoil(table[i])
		table[i] = want[i]
		wantTable(t, table, true, want)
	}
	for _, r := range allRoads(6) {
		for length := 1; length <= 3; length++ {
			first, second, _, ok := impl.BestPlans(r, length)
			kept := slices.Clone(second)
			spoil(first)
			wantList(t, "second plan", second, ok, kept)
		}
	}
}
