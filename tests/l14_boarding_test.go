package tests

import (
	"fmt"
	"math"
	"slices"
	"strings"
	"testing"

	"loop.example/g00935/impl"
)

// boardKinds are all Kinds, in the order of the document.
var boardKinds = []string{"come", "open", "shut", "enter", "leave", "arrive", "level", "go"}

func board(kind string, count int) impl.BoardEvent {
	return impl.BoardEvent{Kind: kind, Count: count}
}

// boards returns the events of a text like "open, enter 3, go".
func boards(text string) []impl.BoardEvent {
	events := []impl.BoardEvent{}
	for _, part := range strings.Split(text, ", ") {
		var e impl.BoardEvent
		if n, _ := fmt.Sscanf(part, "%s %d", &e.Kind, &e.Count); n > 0 {
			events = append(events, e)
		}
	}
	return events
}

// openCabin is a Platform where three of five seats are free.
func openCabin() impl.Platform {
	return impl.Platform{Door: impl.DoorOpen, Seats: 5, Inside: 2, Waiting: 7, Gone: 3}
}

// isPlatform tells whether a Platform is valid, with the limits as numbers.
func isPlatform(p impl.Platform) bool {
	people := p.Inside >= 0 && p.Inside <= p.Seats && p.Waiting >= 0 && p.Waiting <= 500
	cabin := p.Seats == 0 && p.Door == 0 || p.Seats >= 1 && p.Seats <= 16 && (p.Door == 0 || p.Door == 1)
	return people && cabin && p.Gone >= 0 && p.Gone <= 9999
}

// boardCount returns how great a Count of a Kind can be, and whether it must be at least 1.
func boardCount(kind string) (int, bool) {
	counts := map[string]int{"come": 16, "enter": 16, "leave": 16, "arrive": 100}
	return counts[kind], counts[kind] > 0
}

func isBoardEvent(e impl.BoardEvent) bool {
	most, counted := boardCount(e.Kind)
	return slices.Contains(boardKinds, e.Kind) && (counted && e.Count >= 1 && e.Count <= most || !counted && e.Count == 0)
}

// platformAfter asks for each Kind what a valid Platform must have for a valid event.
func platformAfter(p impl.Platform, e impl.BoardEvent) (impl.Platform, bool) {
	q, n := p, e.Count
	there, open := p.Seats != 0, p.Door == 1
	ok := false
	switch e.Kind {
	case "come":
		ok = !there
		q = impl.Platform{Seats: n, Waiting: p.Waiting, Level: p.Level, Gone: p.Gone}
	case "open":
		ok = there && !open
		q.Door = 1
	case "shut":
		ok = there && open
		q.Door = 0
	case "enter":
		ok = open && n <= p.Waiting && n <= p.Seats-p.Inside && !(p.Level && n > 1)
		q.Inside, q.Waiting, q.Level = p.Inside+n, p.Waiting-n, false
	case "leave":
		ok = open && n <= p.Inside
		q.Inside = p.Inside - n
	case "arrive":
		ok = n <= 500-p.Waiting
		q.Waiting = p.Waiting + n
	case "level":
		ok = p.Waiting != 0 && !p.Level
		q.Level = true
	case "go":
		ok = there && !open && p.Gone != 9999
		q = impl.Platform{Waiting: p.Waiting, Level: p.Level, Gone: p.Gone + 1}
	}
	if !ok {
		return impl.Platform{}, false
	}
	return q, true
}

// eachBoardEvent calls f with every valid event.
func eachBoardEvent(f func(e impl.BoardEvent)) {
	for _, kind := range boardKinds {
		most, counted := boardCount(kind)
		if !counted {
			f(board(kind, 0))
		}
		for n := 1; n <= most; n++ {
			f(board(kind, n))
		}
	}
}

// eachPlatform calls f with Platforms with every cabin, and with numbers of the Waiting and of what
// has Gone around all limits.
func eachPlatform(f func(p impl.Platform)) {
	for seats := 0; seats <= 16; seats++ {
		for inside := 0; inside <= seats; inside++ {
			for _, people := range []int{0, 1, 2, 3, 7, 15, 16, 17, 399, 400, 401, 484, 499, 500} {
				for _, gone := range []int{0, 1, 9998, 9999} {
					for _, level := range []bool{false, true} {
						for door := 0; door <= min(seats, 1); door++ {
							f(impl.Platform{Door: door, Seats: seats, Inside: inside, Waiting: people, Level: level, Gone: gone})
						}
					}
				}
			}
		}
	}
}

// boardEventsOf returns up to a number of events that are mostly possible from p on.
func boardEventsOf(p impl.Platform, seed, length int) []impl.BoardEvent {
	next := numbers(seed)
	events := []impl.BoardEvent{}
	for range length {
		e := board(boardKinds[next(len(boardKinds))], 0)
		if most, counted := boardCount(e.Kind); counted {
			e.Count = 1 + next(min(most, 1+next(most)))
		}
		q, ok := platformAfter(p, e)
		if ok {
			p = q
		}
		if ok || next(12) == 0 {
			events = append(events, e)
		}
	}
	return events
}

// invalidPlatforms returns Platforms of which one number is outside its bounds.
func invalidPlatforms() []impl.Platform {
	list := []impl.Platform{
		{Door: impl.DoorOpen}, {Inside: 1}, {Door: impl.DoorOpen, Inside: 1, Waiting: 5}, {Door: impl.DoorOpen, Waiting: 500, Level: true}, {Seats: 4, Inside: 5}, {Seats: 16, Inside: 17}, {Seats: 1, Inside: 2, Door: impl.DoorOpen}, {Seats: 17, Inside: 17}, {Seats: -1, Inside: -1},
	}
	for _, level := range []bool{false, true} {
		for _, n := range append(extremes(), 10000) {
			for door := range 2 {
				list = append(list, impl.Platform{Door: n, Seats: 4, Waiting: 1, Level: level}, impl.Platform{Door: door, Seats: n, Level: level}, impl.Platform{Door: door, Seats: 16, Inside: n, Level: level}, impl.Platform{Door: door, Seats: 2, Inside: 1, Waiting: n, Level: level}, impl.Platform{Door: door, Seats: 3, Waiting: 1, Gone: n, Level: level})
			}
			list = append(list, impl.Platform{Inside: n, Level: level}, impl.Platform{Door: n, Level: level}, impl.Platform{Seats: n, Inside: n, Level: level})
		}
		list = append(list, impl.Platform{Door: 2, Seats: 4, Level: level}, impl.Platform{Seats: 17, Level: level}, impl.Platform{Seats: 4, Waiting: 501, Level: level}, impl.Platform{Waiting: 501, Level: level})
	}
	return list
}

// invalidBoardEvents returns events with a wrong Kind, and with a Count that is outside the bounds.
func invalidBoardEvents() []impl.BoardEvent {
	list := []impl.BoardEvent{}
	for _, kind := range wrongBoardKinds() {
		list = append(list, board(kind, 0), board(kind, 1))
	}
	for _, kind := range boardKinds {
		most, counted := boardCount(kind)
		for _, n := range append(extremes(), most+1, most+2, 101) {
			list = append(list, board(kind, n))
		}
		if counted {
			list = append(list, board(kind, 0))
		}
	}
	return list
}

func wrongBoardKinds() []string {
	return []string{"", " ", "Come", "OPEN", "shut ", " enter", "leav", "leaves", "arrive\n", "level\x00", "go, open", "enter 1", "comego", "close", "\xff", strings.Repeat("go", 50000)}
}

func TestBoardingConstants(t *testing.T) {
	if impl.MaxBoarding != 20 || impl.DoorShut != 0 || impl.DoorOpen != 1 {
		t.Errorf("MaxBoarding is %d, the Doors are %d and %d", impl.MaxBoarding, impl.DoorShut, impl.DoorOpen)
	}
}

func TestIsPlatformUpToTheLimits(t *testing.T) {
	valid := 0
	check := func(p impl.Platform) {
		want := isPlatform(p)
		if want {
			valid++
		}
		if impl.IsPlatform(p) != want {
			t.Fatalf("%+v is a Platform: %v", p, !want)
		}
	}
	for door := -1; door <= 2; door++ {
		for seats := -2; seats <= 18; seats++ {
			for inside := -2; inside <= 19; inside++ {
				for _, people := range []int{-1, 0, 1, 499, 500, 501} {
					for _, gone := range []int{-1, 0, 1, 9998, 9999, 10000} {
						check(impl.Platform{Door: door, Seats: seats, Inside: inside, Waiting: people, Gone: gone})
						check(impl.Platform{Door: door, Seats: seats, Inside: inside, Waiting: people, Gone: gone, Level: true})
					}
				}
			}
		}
	}
	if valid < 5000 {
		t.Errorf("only %d Platforms are valid", valid)
	}
	for _, p := range invalidPlatforms() {
		if impl.IsPlatform(p) || isPlatform(p) {
			t.Errorf("%+v is a Platform", p)
		}
	}
	if !impl.IsPlatform(impl.Platform{}) || !impl.IsPlatform(openCabin()) {
		t.Error("no cabin, or an open one, is no Platform")
	}
}

func TestIsBoardEventUpToTheLimits(t *testing.T) {
	for _, kind := range append(wrongBoardKinds(), boardKinds...) {
		for n := -3; n <= 120; n++ {
			if e := board(kind, n); impl.IsBoardEvent(e) != isBoardEvent(e) {
				t.Errorf("%.60q %d is an event: %v", kind, n, impl.IsBoardEvent(e))
			}
		}
	}
	for _, e := range invalidBoardEvents() {
		if impl.IsBoardEvent(e) || isBoardEvent(e) {
			t.Errorf("%.60q %d is an event", e.Kind, e.Count)
		}
	}
	all := 0
	eachBoardEvent(func(e impl.BoardEvent) {
		all++
		if !impl.IsBoardEvent(e) {
			t.Errorf("%v is no event", e)
		}
	})
	if all != 3*16+100+4 {
		t.Errorf("there are %d events", all)
	}
}

func TestStepPlatformValues(t *testing.T) {
	none, shut, open := impl.Platform{Waiting: 7, Gone: 3}, openCabin(), openCabin()
	shut.Door = impl.DoorShut
	level := open
	level.Level = true
	full := impl.Platform{Door: impl.DoorOpen, Seats: 5, Inside: 5, Waiting: 7, Gone: 3}
	cases := []struct {
		p    impl.Platform
		e    impl.BoardEvent
		want impl.Platform
	}{
		{none, board("come", 5), impl.Platform{Seats: 5, Waiting: 7, Gone: 3}}, {none, board("come", 16), impl.Platform{Seats: 16, Waiting: 7, Gone: 3}}, {none, board("arrive", 100), impl.Platform{Waiting: 107, Gone: 3}}, {none, board("level", 0), impl.Platform{Waiting: 7, Level: true, Gone: 3}},
		{impl.Platform{Gone: 9999, Waiting: 500, Level: true}, board("come", 1), impl.Platform{Seats: 1, Waiting: 500, Level: true, Gone: 9999}},
		{shut, board("open", 0), open}, {open, board("shut", 0), shut}, {shut, board("go", 0), impl.Platform{Waiting: 7, Gone: 4}}, {impl.Platform{Seats: 1, Level: true, Gone: 9998}, board("go", 0), impl.Platform{Level: true, Gone: 9999}},
		{open, board("enter", 1), impl.Platform{Door: 1, Seats: 5, Inside: 3, Waiting: 6, Gone: 3}}, {open, board("enter", 3), impl.Platform{Door: 1, Seats: 5, Inside: 5, Waiting: 4, Gone: 3}},
		{impl.Platform{Door: 1, Seats: 16, Waiting: 16}, board("enter", 16), impl.Platform{Door: 1, Seats: 16, Inside: 16}}, {impl.Platform{Door: 1, Seats: 16, Inside: 2, Waiting: 3}, board("enter", 3), impl.Platform{Door: 1, Seats: 16, Inside: 5}},
		// One alone enters with a level floor, and the next ones need none.
		{level, board("enter", 1), impl.Platform{Door: 1, Seats: 5, Inside: 3, Waiting: 6, Gone: 3}}, {impl.Platform{Door: 1, Seats: 1, Waiting: 1, Level: true}, board("enter", 1), impl.Platform{Door: 1, Seats: 1, Inside: 1}}, {open, board("level", 0), level},
		// Who gets out is Waiting no more.
		{open, board("leave", 1), impl.Platform{Door: 1, Seats: 5, Inside: 1, Waiting: 7, Gone: 3}}, {full, board("leave", 5), impl.Platform{Door: 1, Seats: 5, Waiting: 7, Gone: 3}}, {level, board("leave", 2), impl.Platform{Door: 1, Seats: 5, Waiting: 7, Level: true, Gone: 3}}, {impl.Platform{Door: 1, Seats: 16, Inside: 16, Waiting: 500}, board("leave", 16), impl.Platform{Door: 1, Seats: 16, Waiting: 500}},
		{impl.Platform{Waiting: 400}, board("arrive", 100), impl.Platform{Waiting: 500}}, {full, board("arrive", 1), impl.Platform{Door: 1, Seats: 5, Inside: 5, Waiting: 8, Gone: 3}}, {impl.Platform{Waiting: 1}, board("level", 0), impl.Platform{Waiting: 1, Level: true}}, {full, board("level", 0), impl.Platform{Door: 1, Seats: 5, Inside: 5, Waiting: 7, Level: true, Gone: 3}},
	}
	for _, c := range cases {
		if p, ok := impl.StepPlatform(c.p, c.e); !ok || p != c.want {
			t.Errorf("StepPlatform(%+v, %v) = %+v, %v, not %+v", c.p, c.e, p, ok, c.want)
		}
	}
	impossible := []struct {
		p impl.Platform
		e impl.BoardEvent
	}{
		{shut, board("come", 5)}, {open, board("come", 1)}, {none, board("open", 0)}, {none, board("shut", 0)}, {none, board("enter", 1)}, {none, board("leave", 1)}, {none, board("go", 0)}, {open, board("open", 0)}, {shut, board("shut", 0)}, {open, board("go", 0)}, {full, board("go", 0)},
		{shut, board("enter", 1)}, {shut, board("leave", 1)}, {open, board("enter", 4)}, {level, board("enter", 2)}, {level, board("enter", 3)}, {full, board("enter", 1)}, {impl.Platform{Door: 1, Seats: 1, Inside: 1, Waiting: 1, Level: true}, board("enter", 1)}, {impl.Platform{Door: 1, Seats: 4, Waiting: 2}, board("enter", 3)}, {impl.Platform{Door: 1, Seats: 4, Level: true}, board("enter", 1)}, {impl.Platform{Door: 1, Seats: 4}, board("enter", 1)},
		{open, board("leave", 3)}, {impl.Platform{Door: 1, Seats: 4, Waiting: 4}, board("leave", 1)}, {impl.Platform{Waiting: 401}, board("arrive", 100)}, {impl.Platform{Waiting: 500}, board("arrive", 1)}, {level, board("level", 0)}, {impl.Platform{}, board("level", 0)}, {impl.Platform{Seats: 4, Inside: 4}, board("level", 0)}, {impl.Platform{Seats: 4, Gone: 9999}, board("go", 0)},
	}
	for _, c := range impossible {
		if p, ok := impl.StepPlatform(c.p, c.e); ok || p != (impl.Platform{}) {
			t.Errorf("StepPlatform(%+v, %v) = %+v, %v", c.p, c.e, p, ok)
		}
	}
}

// TestStepsOfManyPlatforms also expects what the document says of single Kinds: which one is possible
// in some way, and how many can enter at most.
func TestStepsOfManyPlatforms(t *testing.T) {
	possible := map[string]int{}
	eachPlatform(func(p impl.Platform) {
		kinds, most := []string{}, 0
		eachBoardEvent(func(e impl.BoardEvent) {
			want, can := platformAfter(p, e)
			if q, ok := impl.StepPlatform(p, e); ok != can || q != want {
				t.Fatalf("StepPlatform(%+v, %v) = %+v, %v, not %+v, %v", p, e, q, ok, want, can)
			}
			if !can {
				return
			}
			if !impl.IsPlatform(want) {
				t.Fatalf("%+v with %v is no Platform", p, e)
			}
			possible[e.Kind]++
			if !slices.Contains(kinds, e.Kind) {
				kinds = append(kinds, e.Kind)
			}
			if e.Kind == "enter" {
				most = max(most, e.Count)
			}
		})
		if got, ok := impl.PossibleKinds(p); !ok || !slices.Equal(got, kinds) {
			t.Fatalf("PossibleKinds(%+v) = %v, %v, not %v", p, got, ok, kinds)
		}
		if n, ok := impl.MostEntering(p); !ok || n != most {
			t.Fatalf("MostEntering(%+v) = %d, %v, not %d", p, n, ok, most)
		}
	})
	for _, kind := range boardKinds {
		if possible[kind] < 1000 {
			t.Errorf("%s is possible only %d times", kind, possible[kind])
		}
	}
}

func TestRunPlatformValues(t *testing.T) {
	begin := impl.Platform{Waiting: 5}
	twenty := slices.Repeat(boards("arrive 1"), 20)
	cases := []struct {
		p     impl.Platform
		e     []impl.BoardEvent
		want  impl.Platform
		count int
	}{
		{begin, nil, begin, 0}, {begin, []impl.BoardEvent{}, begin, 0}, {impl.Platform{}, nil, impl.Platform{}, 0},
		{begin, boards("come 4, open, enter 4, shut, go"), impl.Platform{Waiting: 1, Gone: 1}, 5}, {begin, boards("come 4, open, level, enter 1, enter 3, shut, go, come 1"), impl.Platform{Seats: 1, Waiting: 1, Gone: 1}, 8},
		// Up to the first one that is not possible, also if the ones behind it would be.
		{begin, boards("come 4, open, enter 5, enter 4"), impl.Platform{Door: 1, Seats: 4, Waiting: 5}, 2}, {begin, boards("open, come 4"), begin, 0}, {begin, boards("come 4, level, open, enter 2, enter 1"), impl.Platform{Door: 1, Seats: 4, Waiting: 5, Level: true}, 3}, {begin, boards("arrive 1, go"), impl.Platform{Waiting: 6}, 1},
		// The same if it is not valid.
		{begin, boards("arrive 2, arrive 101, arrive 3"), impl.Platform{Waiting: 7}, 1}, {begin, boards("arrive 2, step, arrive 3"), impl.Platform{Waiting: 7}, 1}, {begin, boards("come 0"), begin, 0}, {begin, boards("come 4, open 1, open"), impl.Platform{Seats: 4, Waiting: 5}, 1},
		{begin, twenty, impl.Platform{Waiting: 25}, 20}, {impl.Platform{Waiting: 481}, twenty, impl.Platform{Waiting: 500}, 19}, {impl.Platform{Waiting: 480}, twenty, impl.Platform{Waiting: 500}, 20}, {begin, append(twenty[:19:19], board("go", 0)), impl.Platform{Waiting: 24}, 19},
	}
	for _, c := range cases {
		if p, n, ok := impl.RunPlatform(c.p, c.e); !ok || p != c.want || n != c.count {
			t.Errorf("RunPlatform(%+v, %v) = %+v, %d, %v, not %+v, %d", c.p, c.e, p, n, ok, c.want, c.count)
		}
	}
	for _, length := range []int{21, 22, 40, 100000} {
		for _, kind := range []string{"arrive 1", "go", "step"} {
			if p, n, ok := impl.RunPlatform(begin, slices.Repeat(boards(kind), length)); ok || n != 0 || p != (impl.Platform{}) {
				t.Errorf("RunPlatform with %d events = %+v, %d, %v", length, p, n, ok)
			}
		}
	}
}

func TestRunPlatformOfManyEvents(t *testing.T) {
	complete, broken, gone := 0, 0, 0
	for seed := range 4000 {
		next := numbers(seed)
		p := impl.Platform{Seats: next(17), Waiting: next(30), Gone: 9990 + next(10)}
		events := boardEventsOf(p, seed, 60)
		events = events[:min(len(events), 20)]
		want, count := p, 0
		for _, e := range events {
			after, ok := platformAfter(want, e)
			if !ok {
				break
			}
			if e.Kind == "go" {
				gone++
			}
			want, count = after, count+1
		}
		if count == 20 {
			complete++
		} else if count < len(events) {
			broken++
		}
		if q, n, ok := impl.RunPlatform(p, events); !ok || q != want || n != count {
			t.Fatalf("RunPlatform(%+v, %v) = %+v, %d, %v, not %+v, %d", p, events, q, n, ok, want, count)
		}
	}
	if complete < 100 || broken < 1000 || gone < 1000 {
		t.Errorf("only %d lists are complete, %d end too soon, and %d cabins leave", complete, broken, gone)
	}
}

func TestPossibleKindsValues(t *testing.T) {
	cases := []struct {
		p    impl.Platform
		want string
	}{
		{impl.Platform{}, "come arrive"}, {impl.Platform{Waiting: 1}, "come arrive level"}, {impl.Platform{Waiting: 500}, "come level"}, {impl.Platform{Waiting: 500, Level: true}, "come"}, {impl.Platform{Level: true}, "come arrive"}, {impl.Platform{Gone: 9999}, "come arrive"},
		{impl.Platform{Seats: 4}, "open arrive go"}, {impl.Platform{Seats: 4, Gone: 9999}, "open arrive"}, {impl.Platform{Seats: 4, Gone: 9999, Waiting: 500, Level: true}, "open"}, {impl.Platform{Seats: 4, Inside: 4, Waiting: 1, Level: true}, "open arrive go"},
		{impl.Platform{Door: 1, Seats: 4}, "shut arrive"}, {impl.Platform{Door: 1, Seats: 4, Level: true}, "shut arrive"}, {impl.Platform{Door: 1, Seats: 4, Waiting: 500, Level: true}, "shut enter"}, {openCabin(), "shut enter leave arrive level"}, {impl.Platform{Door: 1, Seats: 4, Inside: 4, Waiting: 4}, "shut leave arrive level"}, {impl.Platform{Door: 1, Seats: 4, Inside: 3, Waiting: 4, Level: true}, "shut enter leave arrive"},
	}
	for _, c := range cases {
		if kinds, ok := impl.PossibleKinds(c.p); !ok || strings.Join(kinds, " ") != c.want {
			t.Errorf("PossibleKinds(%+v) = %v, %v, not %s", c.p, kinds, ok, c.want)
		}
	}
}

func TestMostEnteringValues(t *testing.T) {
	cases := []struct {
		p    impl.Platform
		want int
	}{
		{impl.Platform{}, 0}, {impl.Platform{Waiting: 5}, 0}, {impl.Platform{Seats: 5, Waiting: 5}, 0}, {impl.Platform{Seats: 5, Waiting: 5, Level: true}, 0}, {openCabin(), 3}, {impl.Platform{Door: 1, Seats: 16, Waiting: 500}, 16}, {impl.Platform{Door: 1, Seats: 16, Waiting: 15}, 15}, {impl.Platform{Door: 1, Seats: 16}, 0},
		// A cabin that is full, or nearly.
		{impl.Platform{Door: 1, Seats: 16, Inside: 16, Waiting: 500}, 0}, {impl.Platform{Door: 1, Seats: 1, Inside: 1, Waiting: 1, Level: true}, 0}, {impl.Platform{Door: 1, Seats: 16, Inside: 15, Waiting: 500}, 1}, {impl.Platform{Door: 1, Seats: 1, Waiting: 500}, 1},
		// With a level floor, one at a time.
		{impl.Platform{Door: 1, Seats: 16, Waiting: 500, Level: true}, 1}, {impl.Platform{Door: 1, Seats: 2, Inside: 1, Waiting: 1, Level: true}, 1}, {impl.Platform{Door: 1, Seats: 16, Level: true}, 0},
	}
	for _, c := range cases {
		if n, ok := impl.MostEntering(c.p); !ok || n != c.want {
			t.Errorf("MostEntering(%+v) = %d, %v, not %d", c.p, n, ok, c.want)
		}
	}
}

func TestQuickestGoValues(t *testing.T) {
	cases := []struct {
		p    impl.Platform
		want string
	}{
		{impl.Platform{Seats: 4}, "go"}, {impl.Platform{Door: 1, Seats: 4}, "shut, go"}, {impl.Platform{Seats: 4, Inside: 3, Gone: 9998}, "go"}, {impl.Platform{Seats: 4, Waiting: 3}, "open, enter 3, shut, go"}, {impl.Platform{Door: 1, Seats: 4, Waiting: 4}, "enter 4, shut, go"}, {impl.Platform{Seats: 16, Waiting: 500}, "open, enter 16, shut, go"}, {openCabin(), "enter 3, shut, go"},
		// A cabin that is full is not opened.
		{impl.Platform{Seats: 4, Inside: 4, Waiting: 9}, "go"}, {impl.Platform{Seats: 1, Inside: 1, Waiting: 1, Level: true}, "go"}, {impl.Platform{Door: 1, Seats: 16, Inside: 16, Waiting: 500, Level: true}, "shut, go"}, {impl.Platform{Door: 1, Seats: 4, Inside: 4, Waiting: 9}, "shut, go"},
		// Who needs a level floor enters alone, and the others behind.
		{impl.Platform{Seats: 4, Waiting: 9, Level: true}, "open, enter 1, enter 3, shut, go"}, {impl.Platform{Seats: 4, Inside: 1, Waiting: 3, Level: true}, "open, enter 1, enter 2, shut, go"}, {impl.Platform{Seats: 4, Inside: 3, Waiting: 9, Level: true}, "open, enter 1, shut, go"}, {impl.Platform{Seats: 4, Waiting: 1, Level: true}, "open, enter 1, shut, go"}, {impl.Platform{Door: 1, Seats: 16, Waiting: 16, Level: true}, "enter 1, enter 15, shut, go"}, {impl.Platform{Door: 1, Seats: 2, Waiting: 2, Level: true}, "enter 1, enter 1, shut, go"},
		{impl.Platform{Seats: 4, Level: true}, "go"}, {impl.Platform{Door: 1, Seats: 4, Level: true}, "shut, go"},
	}
	for _, c := range cases {
		if events, ok := impl.QuickestGo(c.p); !ok || !slices.Equal(events, boards(c.want)) {
			t.Errorf("QuickestGo(%+v) = %v, %v, not %s", c.p, events, ok, c.want)
		}
	}
	for _, p := range []impl.Platform{{}, {Waiting: 5}, {Waiting: 500, Level: true, Gone: 9999}, {Seats: 4, Gone: 9999}, {Door: 1, Seats: 4, Inside: 2, Waiting: 5, Gone: 9999}, {Gone: 9998}} {
		if events, ok := impl.QuickestGo(p); ok || len(events) != 0 {
			t.Errorf("QuickestGo(%+v) = %v, %v", p, events, ok)
		}
	}
}

// TestQuickestEventsArePossibleAndLeaveNobodyBehind carries the events out one by one, and looks for
// someone who could still enter when the cabin leaves.
func TestQuickestEventsArePossibleAndLeaveNobodyBehind(t *testing.T) {
	one, several := 0, 0
	eachPlatform(func(p impl.Platform) {
		events, ok := impl.QuickestGo(p)
		if want := p.Seats > 0 && p.Gone < 9999; ok != want || !ok && len(events) != 0 {
			t.Fatalf("QuickestGo(%+v) = %v, %v", p, events, ok)
		}
		if !ok {
			return
		}
		q, entered := p, 0
		for i, e := range events {
			if e.Kind == "go" {
				open := q
				open.Door = impl.DoorOpen
				if n, ok := impl.MostEntering(open); !ok || n != 0 || i != len(events)-1 {
					t.Fatalf("%v of %+v: %d, %v can still enter", events, p, n, ok)
				}
			}
			next, ok := impl.StepPlatform(q, e)
			if !ok {
				t.Fatalf("%v of %+v: %v is not possible for %+v", events, p, e, q)
			}
			if e.Kind == "enter" {
				entered += e.Count
			}
			q = next
		}
		places := min(p.Seats-p.Inside, p.Waiting)
		want := impl.Platform{Waiting: p.Waiting - places, Level: p.Level && places == 0, Gone: p.Gone + 1}
		if q != want || entered != places {
			t.Fatalf("%v of %+v: %d enter, and %+v remains, not %d, %+v", events, p, entered, q, places, want)
		}
		if r, n, ok := impl.RunPlatform(p, events); !ok || r != q || n != len(events) {
			t.Fatalf("RunPlatform(%+v, %v) = %+v, %d, %v, not %+v", p, events, r, n, ok, q)
		}
		if n, _, ok := impl.CountEvents(events, "enter"); ok && n > 1 {
			several++
		} else if n == 1 {
			one++
		}
	})
	if one < 5000 || several < 3000 {
		t.Errorf("only %d cabins leave with one group more, %d with several", one, several)
	}
}

// fewestToGo returns the smallest number of events behind which the cabin has left with as many
// people as possible; nobody comes or gets out before.
func fewestToGo(p impl.Platform) int {
	full := min(p.Seats, p.Inside+p.Waiting)
	layer := map[impl.Platform]bool{p: true}
	for count := 1; count < 10; count++ {
		behind := map[impl.Platform]bool{}
		for q := range layer {
			for _, kind := range []string{"open", "shut", "enter", "level", "go"} {
				most, _ := boardCount(kind)
				for n := min(1, most); n <= most; n++ {
					after, ok := platformAfter(q, board(kind, n))
					if ok && kind == "go" && q.Inside == full {
						return count
					}
					if ok && kind != "go" {
						behind[after] = true
					}
				}
			}
		}
		layer = behind
	}
	return 0
}

func TestQuickestGoHasTheFewestEvents(t *testing.T) {
	counts := map[int]int{}
	for seats := 1; seats <= 5; seats++ {
		for inside := 0; inside <= seats; inside++ {
			for people := range 8 {
				for door := range 2 {
					for _, level := range []bool{false, true} {
						p := impl.Platform{Door: door, Seats: seats, Inside: inside, Waiting: people, Level: level}
						events, ok := impl.QuickestGo(p)
						if want := fewestToGo(p); !ok || len(events) != want {
							t.Fatalf("QuickestGo(%+v) = %v, %v, not %d events", p, events, ok, want)
						}
						counts[len(events)]++
					}
				}
			}
		}
	}
	if len(counts) != 5 {
		t.Errorf("there are the lengths %v", counts)
	}
}

func TestBoardTextValues(t *testing.T) {
	cases := []struct {
		p    impl.Platform
		want string
	}{
		{impl.Platform{}, "no cabin, 0 waiting"}, {impl.Platform{Gone: 9999}, "no cabin, 0 waiting"}, {impl.Platform{Waiting: 500, Level: true}, "no cabin, 500 waiting (level)"}, {impl.Platform{Level: true}, "no cabin, 0 waiting (level)"}, {impl.Platform{Waiting: 1}, "no cabin, 1 waiting"},
		{impl.Platform{Seats: 1}, "cabin 0/1 shut, 0 waiting"}, {impl.Platform{Door: 1, Seats: 16, Inside: 16, Waiting: 12}, "cabin 16/16 open, 12 waiting"}, {impl.Platform{Door: 1, Seats: 10, Inside: 3, Waiting: 100, Level: true, Gone: 7}, "cabin 3/10 open, 100 waiting (level)"}, {impl.Platform{Seats: 9, Inside: 9, Waiting: 10, Level: true}, "cabin 9/9 shut, 10 waiting (level)"}, {openCabin(), "cabin 2/5 open, 7 waiting"},
	}
	for _, c := range cases {
		if text, ok := impl.BoardText(c.p); !ok || text != c.want {
			t.Errorf("BoardText(%+v) = %q, %v, not %q", c.p, text, ok, c.want)
		}
	}
	eachPlatform(func(p impl.Platform) {
		want := fmt.Sprintf("cabin %d/%d %s, %d waiting", p.Inside, p.Seats, []string{"shut", "open"}[p.Door], p.Waiting)
		if p.Seats == 0 {
			want = fmt.Sprintf("no cabin, %d waiting", p.Waiting)
		}
		if p.Level {
			want += " (level)"
		}
		if text, ok := impl.BoardText(p); !ok || text != want {
			t.Fatalf("BoardText(%+v) = %q, %v, not %q", p, text, ok, want)
		}
	})
}

func TestCountEventsValues(t *testing.T) {
	some := boards("come 4, open, enter 1, enter 3, leave 2, arrive 100, arrive 1, level, enter 1, shut, go, open, enter 16")
	for kind, want := range map[string][2]int{"come": {1, 4}, "open": {2, 0}, "shut": {1, 0}, "enter": {4, 21}, "leave": {1, 2}, "arrive": {2, 101}, "level": {1, 0}, "go": {1, 0}} {
		if n, sum, ok := impl.CountEvents(some, kind); !ok || n != want[0] || sum != want[1] {
			t.Errorf("CountEvents of %s = %d, %d, %v, not %v", kind, n, sum, ok, want)
		}
		for _, none := range [][]impl.BoardEvent{nil, {}} {
			if n, sum, ok := impl.CountEvents(none, kind); !ok || n != 0 || sum != 0 {
				t.Errorf("CountEvents of no %s = %d, %d, %v", kind, n, sum, ok)
			}
		}
	}
	// They need not be possible one behind the other.
	if n, sum, ok := impl.CountEvents(slices.Repeat(boards("arrive 100"), 20), "arrive"); !ok || n != 20 || sum != 2000 {
		t.Errorf("CountEvents of 20 = %d, %d, %v", n, sum, ok)
	}
	if n, sum, ok := impl.CountEvents(slices.Repeat(boards("go"), 20), "go"); !ok || n != 20 || sum != 0 {
		t.Errorf("CountEvents of 20 = %d, %d, %v", n, sum, ok)
	}
	for _, length := range []int{21, 22, 40, 100000} {
		if n, sum, ok := impl.CountEvents(slices.Repeat(boards("arrive 1"), length), "arrive"); ok || n != 0 || sum != 0 {
			t.Errorf("CountEvents of %d = %d, %d, %v", length, n, sum, ok)
		}
	}
	for _, kind := range wrongBoardKinds() {
		for _, events := range [][]impl.BoardEvent{nil, some, {board(kind, 0)}, {board(kind, 1)}} {
			if n, sum, ok := impl.CountEvents(events, kind); ok || n != 0 || sum != 0 {
				t.Errorf("CountEvents of %.60q = %d, %d, %v", kind, n, sum, ok)
			}
		}
	}
}

func TestInvalidBoardEventsFail(t *testing.T) {
	for _, e := range invalidBoardEvents() {
		for _, p := range []impl.Platform{{}, {Waiting: 5}, {Seats: 16, Waiting: 50}, {Door: 1, Seats: 16, Inside: 8, Waiting: 50}, {Door: 1, Seats: 2, Inside: 1, Waiting: 1, Level: true}} {
			if q, ok := impl.StepPlatform(p, e); ok || q != (impl.Platform{}) {
				t.Errorf("StepPlatform(%+v, %.60q %d) = %+v, %v", p, e.Kind, e.Count, q, ok)
			}
			// A run ends there, but does not fail.
			for _, events := range [][]impl.BoardEvent{{e}, {board("arrive", 3), e, board("arrive", 3)}} {
				want := p
				want.Waiting += 3 * (len(events) / 2)
				if q, n, ok := impl.RunPlatform(p, events); !ok || q != want || n != len(events)/2 {
					t.Errorf("RunPlatform(%+v, .. %.60q %d) = %+v, %d, %v", p, e.Kind, e.Count, q, n, ok)
				}
			}
		}
		for _, events := range [][]impl.BoardEvent{{e}, {board("arrive", 3), e}, {e, board("arrive", 3)}, append(slices.Repeat(boards("go"), 19), e)} {
			for _, kind := range boardKinds {
				if n, sum, ok := impl.CountEvents(events, kind); ok || n != 0 || sum != 0 {
					t.Errorf("CountEvents of %s, with %.60q %d, = %d, %d, %v", kind, e.Kind, e.Count, n, sum, ok)
				}
			}
		}
	}
}

func TestInvalidPlatformsFail(t *testing.T) {
	for _, p := range invalidPlatforms() {
		eachBoardEvent(func(e impl.BoardEvent) {
			if q, ok := impl.StepPlatform(p, e); ok || q != (impl.Platform{}) {
				t.Errorf("StepPlatform(%+v, %v) = %+v, %v", p, e, q, ok)
			}
		})
		for _, events := range [][]impl.BoardEvent{nil, {}, boards("shut"), boards("arrive 1, open, go")} {
			if q, n, ok := impl.RunPlatform(p, events); ok || n != 0 || q != (impl.Platform{}) {
				t.Errorf("RunPlatform(%+v, %v) = %+v, %d, %v", p, events, q, n, ok)
			}
		}
		if kinds, ok := impl.PossibleKinds(p); ok || len(kinds) != 0 {
			t.Errorf("PossibleKinds(%+v) = %v, %v", p, kinds, ok)
		}
		if n, ok := impl.MostEntering(p); ok || n != 0 {
			t.Errorf("MostEntering(%+v) = %d, %v", p, n, ok)
		}
		if events, ok := impl.QuickestGo(p); ok || len(events) != 0 {
			t.Errorf("QuickestGo(%+v) = %v, %v", p, events, ok)
		}
		if text, ok := impl.BoardText(p); ok || text != "" {
			t.Errorf("BoardText(%+v) = %q, %v", p, text, ok)
		}
	}
}

// boardResults calls every function of the chapter, checks that zero values stand beside false, and
// returns all results as a text.
func boardResults(t *testing.T, p impl.Platform, events []impl.BoardEvent, e impl.BoardEvent) string {
	t.Helper()
	valid, validEvent := impl.IsPlatform(p), impl.IsBoardEvent(e)
	step, stepOk := impl.StepPlatform(p, e)
	run, count, runOk := impl.RunPlatform(p, events)
	kinds, kindsOk := impl.PossibleKinds(p)
	most, mostOk := impl.MostEntering(p)
	quickest, quickestOk := impl.QuickestGo(p)
	text, textOk := impl.BoardText(p)
	number, sum, numberOk := impl.CountEvents(events, e.Kind)
	got := []bool{valid, validEvent, stepOk, runOk, kindsOk, mostOk, quickestOk, textOk, numberOk}
	isWrong := func(e impl.BoardEvent) bool { return !isBoardEvent(e) }
	fits, is := len(events) <= 20, isPlatform(p)
	_, possible := platformAfter(p, e)
	want := []bool{is, isBoardEvent(e), is && isBoardEvent(e) && possible, is && fits, is, is, is && p.Seats > 0 && p.Gone < 9999, is, fits && slices.Contains(boardKinds, e.Kind) && !slices.ContainsFunc(events, isWrong)}
	if !slices.Equal(got, want) {
		t.Fatalf("%+v, %.300s, %.60q %d: %v, not %v", p, fmt.Sprint(events), e.Kind, e.Count, got, want)
	}
	none := impl.Platform{}
	zero := (step == none || stepOk) && (run == none && count == 0 || runOk) && (len(kinds) == 0 || kindsOk) && (most == 0 || mostOk)
	zero = zero && (len(quickest) == 0 || quickestOk) && (text == "" || textOk) && (number == 0 && sum == 0 || numberOk)
	if !zero {
		t.Fatalf("%+v, %.300s, %.60q %d: a result beside false is not zero", p, fmt.Sprint(events), e.Kind, e.Count)
	}
	return fmt.Sprint(got, step, run, count, kinds, most, quickest, text, number, sum)
}

// TestBoardingReturnsForAllArguments gives valid and invalid arguments to every function of the
// chapter, with events as parts of longer lists, and expects that nothing in these changes, that what
// stands behind them does not count, and that a second call returns the same.
func TestBoardingReturnsForAllArguments(t *testing.T) {
	check := func(p impl.Platform, events []impl.BoardEvent, e impl.BoardEvent) {
		memory := append(slices.Clone(events), board("arrive", 1), board("", math.MinInt), board("open", 0), board("go", 1))
		before := slices.Clone(memory)
		first := boardResults(t, p, slices.Clone(events), e)
		if second := boardResults(t, p, memory[:len(events)], e); second != first {
			t.Fatalf("%.300s and then %.300s", first, second)
		}
		if !slices.Equal(memory, before) {
			t.Fatalf("the argument %.300s is changed", fmt.Sprint(events))
		}
	}
	seed := 0
	eachPlatform(func(p impl.Platform) {
		seed++
		events := boardEventsOf(p, seed, 1+seed%30)
		kind := boardKinds[seed%8]
		check(p, events, board(kind, seed%18))
		check(p, events[:len(events)/2], board(kind, min(1, seed%5)))
	})
	wrong := invalidBoardEvents()
	for i, p := range append(invalidPlatforms(), impl.Platform{}, openCabin(), impl.Platform{Seats: 8, Inside: 8, Waiting: 8, Level: true}) {
		for k, e := range wrong {
			check(p, []impl.BoardEvent{wrong[(i+k)%len(wrong)], e}, e)
		}
		eachBoardEvent(func(e impl.BoardEvent) { check(p, []impl.BoardEvent{e, e}, e) })
		for _, length := range []int{19, 20, 21, 22, 1000} {
			check(p, slices.Repeat(boards("arrive 1"), length), board("arrive", length))
			check(p, slices.Repeat([]impl.BoardEvent{wrong[i%len(wrong)]}, length), board("arrive", 1))
		}
	}
}

// boardMemory changes a result, and behind its length, and expects that no other result changes.
func boardMemory[T comparable](t *testing.T, p impl.Platform, f func(p impl.Platform) ([]T, bool)) {
	t.Helper()
	one, _ := f(p)
	two, _ := f(p)
	kept := slices.Clone(two)
	clear(one[:cap(one)])
	if three, _ := f(p); !slices.Equal(two, kept) || !slices.Equal(three, kept) {
		t.Fatalf("results of %+v share memory: %v and %v, not %v", p, two, three, kept)
	}
}

func TestBoardingReturnsNewMemory(t *testing.T) {
	eachPlatform(func(p impl.Platform) {
		boardMemory(t, p, impl.PossibleKinds)
		boardMemory(t, p, impl.QuickestGo)
	})
}
