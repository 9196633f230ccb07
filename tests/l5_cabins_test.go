package tests

import (
	"fmt"
	"math"
	"slices"
	"strings"
	"testing"

	"loop.example/g00935/impl"
)

// cabinStates are all States.
var cabinStates = []int{impl.CabinReady, impl.CabinOnLine, impl.CabinParked, impl.CabinBroken}

func cabin(number, seats, state, trips int) impl.Cabin {
	return impl.Cabin{Number: number, Seats: seats, Empty: 450, State: state, Trips: trips}
}

// exampleCabins are Cabins in each State, with equal Seats and equal Trips among them.
func exampleCabins() []impl.Cabin {
	return []impl.Cabin{
		cabin(1, 8, impl.CabinReady, 5), cabin(2, 4, impl.CabinOnLine, 9), cabin(4, 16, impl.CabinReady, 5), cabin(7, 8, impl.CabinParked, 9),
		cabin(11, 8, impl.CabinReady, 4), cabin(20, 6, impl.CabinBroken, 70), cabin(60, 10, impl.CabinOnLine, 3), cabin(99, 4, impl.CabinReady, 0),
	}
}

// mostCabins has as many Cabins as a list can have, and meets every limit of their numbers.
func mostCabins() []impl.Cabin {
	list := []impl.Cabin{}
	for i := range impl.CabinLimit {
		c := impl.Cabin{Number: 1 + i*98/(impl.CabinLimit-1), Seats: 16, Empty: 2000, State: impl.CabinReady, Trips: 99999}
		if i%2 > 0 {
			c = impl.Cabin{Number: c.Number, Seats: 1, Empty: 100, State: impl.CabinOnLine}
		}
		list = append(list, c)
	}
	return list
}

// cabinsOf returns a valid list, in which Seats and Trips are often equal.
func cabinsOf(seed int) []impl.Cabin {
	next := numbers(seed)
	states := [][]int{cabinStates, {impl.CabinReady}, {impl.CabinOnLine, impl.CabinReady}, {impl.CabinReady, impl.CabinReady, impl.CabinBroken}}[next(4)]
	spread := []int{1, 3, 16}[next(3)]
	list := []impl.Cabin{}
	number := 0
	for range next(impl.CabinLimit + 1) {
		number += 1 + next(8)
		list = append(list, impl.Cabin{
			Number: number, Seats: 1 + next(spread), Empty: 100 + next(1901), State: states[next(len(states))], Trips: []int{0, 1 + next(3), next(100000), 99997 + next(3)}[next(4)],
		})
	}
	return list
}

// eachCabins calls f with a valid list, many times.
func eachCabins(f func(list []impl.Cabin)) {
	f(nil)
	f([]impl.Cabin{})
	f(exampleCabins())
	f(mostCabins())
	for seed := range 2000 {
		f(cabinsOf(seed))
	}
}

// invalidCabins returns Cabins that break one rule each.
func invalidCabins() []impl.Cabin {
	list := []impl.Cabin{{}}
	for i, wrong := range [][]int{{0, -1, 100}, {0, -1, 17}, {0, 99, 2001}, {-1, 4}, {-1, 100000}} {
		for _, n := range append(wrong, extremes()...) {
			c := cabin(5, 8, impl.CabinReady, 5)
			*[]*int{&c.Number, &c.Seats, &c.Empty, &c.State, &c.Trips}[i] = n
			list = append(list, c)
		}
	}
	return list
}

// invalidCabinLists returns lists that break one rule each.
func invalidCabinLists() [][]impl.Cabin {
	thirteen := []impl.Cabin{}
	for i := range impl.CabinLimit + 1 {
		thirteen = append(thirteen, cabin(i+1, 8, impl.CabinReady, 5))
	}
	one, two, three := cabin(1, 8, impl.CabinReady, 5), cabin(2, 8, impl.CabinOnLine, 5), cabin(3, 8, impl.CabinReady, 6)
	lists := [][]impl.Cabin{
		thirteen, make([]impl.Cabin, 100000), {one, one}, {two, one}, {one, three, two}, {two, one, three}, {one, two, two}, {one, cabin(1, 4, impl.CabinParked, 0)},
	}
	for _, c := range invalidCabins() {
		lists = append(lists, []impl.Cabin{c}, []impl.Cabin{one, c}, []impl.Cabin{c, cabin(99, 8, impl.CabinReady, 5)}, []impl.Cabin{one, two, c, cabin(9, 8, impl.CabinOnLine, 5)})
	}
	return lists
}

// wrongStates are numbers that are no State.
func wrongStates() []int {
	return append(extremes(), -2, 4, 5, 100)
}

func TestIsCabinAcceptsUpToTheLimits(t *testing.T) {
	for i, limits := range [][]int{{1, 2, 50, 99}, {1, 2, 15, 16}, {100, 101, 1999, 2000}, cabinStates, {0, 1, 99998, 99999}} {
		for _, n := range limits {
			c := cabin(5, 8, impl.CabinReady, 5)
			*[]*int{&c.Number, &c.Seats, &c.Empty, &c.State, &c.Trips}[i] = n
			if !impl.IsCabin(c) || !impl.AreCabins([]impl.Cabin{c}) {
				t.Errorf("%+v is not valid", c)
			}
		}
	}
	for _, c := range invalidCabins() {
		if impl.IsCabin(c) || impl.AreCabins([]impl.Cabin{c}) {
			t.Errorf("%+v is valid", c)
		}
	}
}

func TestCabinConstants(t *testing.T) {
	if impl.CabinLimit != 12 || !slices.Equal(cabinStates, []int{0, 1, 2, 3}) {
		t.Errorf("CabinLimit is %d, and the States are %v", impl.CabinLimit, cabinStates)
	}
}

func TestAreCabins(t *testing.T) {
	eachCabins(func(list []impl.Cabin) {
		if !impl.AreCabins(list) {
			t.Fatalf("%v is not valid", list)
		}
		for i, c := range list {
			if !impl.IsCabin(c) || !impl.AreCabins(list[i:]) || !impl.AreCabins(list[:i]) {
				t.Fatalf("a part of %v is not valid", list)
			}
		}
		if len(list) > 1 && (impl.AreCabins([]impl.Cabin{list[1], list[0]}) || impl.AreCabins([]impl.Cabin{list[0], list[0]})) {
			t.Fatalf("%v is valid in another order", list[:2])
		}
	})
	for _, list := range invalidCabinLists() {
		if impl.AreCabins(list) {
			t.Errorf("%.300s is valid", fmt.Sprint(list))
		}
	}
}

// cabinCanBecome holds the pairs of States of which the second one can follow the first one.
var cabinCanBecome = map[[2]int]bool{
	{impl.CabinReady, impl.CabinOnLine}: true, {impl.CabinReady, impl.CabinParked}: true, {impl.CabinReady, impl.CabinBroken}: true,
	{impl.CabinOnLine, impl.CabinReady}: true, {impl.CabinOnLine, impl.CabinBroken}: true,
	{impl.CabinParked, impl.CabinReady}: true, {impl.CabinParked, impl.CabinBroken}: true,
	{impl.CabinBroken, impl.CabinParked}: true,
}

func TestMoveCabinFromEachState(t *testing.T) {
	for _, from := range cabinStates {
		for _, to := range append(wrongStates(), cabinStates...) {
			list := []impl.Cabin{cabin(1, 8, impl.CabinOnLine, 5), cabin(3, 4, from, 7), cabin(8, 6, impl.CabinParked, 2)}
			moved, ok := impl.MoveCabin(list, 3, to)
			if !cabinCanBecome[[2]int{from, to}] {
				if ok || len(moved) != 0 {
					t.Errorf("from %d to %d: %v, %v", from, to, moved, ok)
				}
				continue
			}
			want := []impl.Cabin{list[0], cabin(3, 4, to, 7), list[2]}
			if from == impl.CabinOnLine && to == impl.CabinReady {
				want[1].Trips = 8
			}
			if !ok || !slices.Equal(moved, want) {
				t.Errorf("from %d to %d: %v, %v, not %v", from, to, moved, ok, want)
			}
		}
	}
}

// TestACabinThatComesBackHasMadeATripMore moves every Cabin of many lists to every State.
func TestACabinThatComesBackHasMadeATripMore(t *testing.T) {
	back, full := 0, 0
	eachCabins(func(list []impl.Cabin) {
		for i, c := range list {
			for _, state := range cabinStates {
				want := slices.Clone(list)
				want[i].State = state
				comesBack := c.State == impl.CabinOnLine && state == impl.CabinReady
				if comesBack {
					want[i].Trips++
				}
				wantOk := cabinCanBecome[[2]int{c.State, state}] && want[i].Trips <= 99999
				moved, ok := impl.MoveCabin(list, c.Number, state)
				if ok != wantOk || ok && !slices.Equal(moved, want) || !ok && len(moved) != 0 {
					t.Fatalf("MoveCabin(%v, %d, %d) = %v, %v, not %v, %v", list, c.Number, state, moved, ok, want, wantOk)
				}
				if comesBack && ok {
					back++
				} else if comesBack {
					full++
				}
			}
		}
	})
	if back < 1000 || full < 100 {
		t.Errorf("only %d Cabins come back, and %d have made too many Trips", back, full)
	}
}

// TestACabinGoesRound sends one Cabin on the line and back until it has made all its Trips.
func TestACabinGoesRound(t *testing.T) {
	list := []impl.Cabin{cabin(2, 8, impl.CabinReady, 0), cabin(5, 8, impl.CabinReady, 99990), cabin(9, 8, impl.CabinOnLine, 1)}
	other := slices.Clone(list)
	for trips := 99990; ; trips++ {
		out, ok := impl.MoveCabin(list, 5, impl.CabinOnLine)
		if !ok || out[1] != cabin(5, 8, impl.CabinOnLine, trips) || out[0] != other[0] || out[2] != other[2] {
			t.Fatalf("out with %d Trips: %v, %v", trips, out, ok)
		}
		back, ok := impl.MoveCabin(out, 5, impl.CabinReady)
		if trips == 99999 {
			if ok || len(back) != 0 {
				t.Errorf("back with %d Trips: %v, %v", trips, back, ok)
			}
			if broken, ok := impl.MoveCabin(out, 5, impl.CabinBroken); !ok || broken[1] != cabin(5, 8, impl.CabinBroken, trips) {
				t.Errorf("broken with %d Trips: %v, %v", trips, broken, ok)
			}
			return
		}
		if !ok || back[1] != cabin(5, 8, impl.CabinReady, trips+1) || back[0] != other[0] || back[2] != other[2] {
			t.Fatalf("back with %d Trips: %v, %v", trips, back, ok)
		}
		list = back
	}
}

// TestABrokenCabinMakesNoTrip repairs a Cabin that broke on the line: it gets no Trip for that.
func TestABrokenCabinMakesNoTrip(t *testing.T) {
	list := []impl.Cabin{cabin(5, 8, impl.CabinOnLine, 3)}
	for _, state := range []int{impl.CabinBroken, impl.CabinParked, impl.CabinReady, impl.CabinParked, impl.CabinBroken, impl.CabinParked, impl.CabinReady, impl.CabinBroken} {
		moved, ok := impl.MoveCabin(list, 5, state)
		if !ok || !slices.Equal(moved, []impl.Cabin{cabin(5, 8, state, 3)}) {
			t.Fatalf("to %d: %v, %v", state, moved, ok)
		}
		list = moved
	}
}

func TestMoveCabinFails(t *testing.T) {
	for _, number := range append(extremes(), 0, 3, 5, 98, 100) {
		if moved, ok := impl.MoveCabin(exampleCabins(), number, impl.CabinBroken); ok || len(moved) != 0 {
			t.Errorf("MoveCabin of %d = %v, %v", number, moved, ok)
		}
	}
	for _, list := range append(invalidCabinLists(), nil) {
		for _, number := range []int{0, 1, 2, 3, 5, 9, 99} {
			for _, state := range append(wrongStates(), cabinStates...) {
				if moved, ok := impl.MoveCabin(list, number, state); ok || len(moved) != 0 {
					t.Fatalf("MoveCabin(%.300s, %d, %d) = %v, %v", fmt.Sprint(list), number, state, moved, ok)
				}
			}
		}
	}
}

func TestCabinLoad(t *testing.T) {
	cases := []struct{ seats, empty, people, want int }{
		{8, 450, 0, 450}, {8, 450, 1, 530}, {8, 450, 3, 690}, {8, 450, 8, 1090}, {1, 100, 0, 100}, {1, 100, 1, 180}, {16, 2000, 16, 3280}, {16, 2000, 0, 2000}, {16, 101, 15, 1301},
	}
	for _, c := range cases {
		for _, state := range cabinStates {
			one := impl.Cabin{Number: 7, Seats: c.seats, Empty: c.empty, State: state, Trips: 3}
			if n, ok := impl.CabinLoad(one, c.people); !ok || n != c.want {
				t.Errorf("CabinLoad(%+v, %d) = %d, %v, not %d", one, c.people, n, ok, c.want)
			}
		}
	}
	for seats := 1; seats <= 16; seats++ {
		for _, people := range append(extremes(), seats+1, seats+2) {
			if n, ok := impl.CabinLoad(cabin(7, seats, impl.CabinReady, 3), people); ok || n != 0 {
				t.Errorf("CabinLoad of %d Seats with %d people = %d, %v", seats, people, n, ok)
			}
		}
	}
	for _, wrong := range invalidCabins() {
		for _, people := range []int{0, 1} {
			if n, ok := impl.CabinLoad(wrong, people); ok || n != 0 {
				t.Errorf("CabinLoad(%+v, %d) = %d, %v", wrong, people, n, ok)
			}
		}
	}
}

func TestCabinsOfTheExample(t *testing.T) {
	list := exampleCabins()
	for state, want := range [][]int{{1, 4, 11, 99}, {2, 60}, {7}, {20}} {
		if n, ok := impl.CabinsIn(list, state); !ok || !slices.Equal(n, want) {
			t.Errorf("CabinsIn(%d) = %v, %v, not %v", state, n, ok, want)
		}
	}
	if n, ok := impl.SeatsOnLine(list); !ok || n != 14 {
		t.Errorf("SeatsOnLine = %d, %v", n, ok)
	}
	for _, list := range [][]impl.Cabin{nil, {cabin(5, 8, impl.CabinReady, 3)}} {
		if n, ok := impl.CabinsIn(list, impl.CabinParked); !ok || len(n) != 0 {
			t.Errorf("CabinsIn of none = %v, %v", n, ok)
		}
		if n, ok := impl.SeatsOnLine(list); !ok || n != 0 {
			t.Errorf("SeatsOnLine of none = %d, %v", n, ok)
		}
	}
	if n, ok := impl.SeatsOnLine(mostCabins()); !ok || n != 6 {
		t.Errorf("SeatsOnLine = %d, %v", n, ok)
	}
	for _, state := range wrongStates() {
		for _, list := range [][]impl.Cabin{list, nil} {
			if n, ok := impl.CabinsIn(list, state); ok || len(n) != 0 {
				t.Errorf("CabinsIn(%v, %d) = %v, %v", list, state, n, ok)
			}
		}
	}
}

// TestEveryCabinIsInOneState expects each Number in the list of its State, and in no other one.
func TestEveryCabinIsInOneState(t *testing.T) {
	eachCabins(func(list []impl.Cabin) {
		count, seats := 0, 0
		for _, state := range cabinStates {
			found, ok := impl.CabinsIn(list, state)
			if !ok || !slices.IsSorted(found) {
				t.Fatalf("CabinsIn(%v, %d) = %v, %v", list, state, found, ok)
			}
			for _, c := range list {
				if slices.Contains(found, c.Number) != (c.State == state) {
					t.Fatalf("CabinsIn(%v, %d) = %v", list, state, found)
				}
				if c.State == state && state == impl.CabinOnLine {
					seats += c.Seats
				}
			}
			count += len(found)
		}
		if n, ok := impl.SeatsOnLine(list); !ok || n != seats || count != len(list) {
			t.Fatalf("%v: %d Cabins in all States, SeatsOnLine is %d, %v", list, count, n, ok)
		}
	})
}

func TestNextOutValues(t *testing.T) {
	cases := []struct {
		list        []impl.Cabin
		least, want int
	}{
		{exampleCabins(), 1, 99}, {exampleCabins(), 4, 99}, {exampleCabins(), 5, 11}, {exampleCabins(), 8, 11}, {exampleCabins(), 9, 4}, {exampleCabins(), 16, 4},
		{exampleCabins()[:4], 1, 1}, {exampleCabins()[:4], 8, 1}, {exampleCabins()[:4], 9, 4}, {exampleCabins()[1:4], 1, 4}, {mostCabins(), 16, 1},
		{[]impl.Cabin{cabin(9, 1, impl.CabinReady, 99999)}, 1, 9}, {[]impl.Cabin{cabin(3, 7, impl.CabinReady, 0), cabin(9, 7, impl.CabinReady, 0)}, 7, 3},
	}
	for _, c := range cases {
		if n, ok := impl.NextOut(c.list, c.least); !ok || n != c.want {
			t.Errorf("NextOut(%v, %d) = %d, %v, not %d", c.list, c.least, n, ok, c.want)
		}
	}
	noReady := []impl.Cabin{cabin(1, 16, impl.CabinOnLine, 0), cabin(2, 16, impl.CabinParked, 0), cabin(3, 16, impl.CabinBroken, 0), cabin(4, 3, impl.CabinReady, 0)}
	for _, list := range [][]impl.Cabin{nil, noReady} {
		if n, ok := impl.NextOut(list, 4); ok || n != 0 {
			t.Errorf("NextOut(%v) = %d, %v", list, n, ok)
		}
	}
	for _, least := range append(extremes(), 0, 17) {
		if n, ok := impl.NextOut(exampleCabins(), least); ok || n != 0 {
			t.Errorf("NextOut(%d) = %d, %v", least, n, ok)
		}
	}
}

func TestNextOutOfManyLists(t *testing.T) {
	eachCabins(func(list []impl.Cabin) {
		for least := 1; least <= 16; least++ {
			want, fewest := 0, math.MaxInt
			for i := len(list) - 1; i >= 0; i-- {
				c := list[i]
				if c.State == impl.CabinReady && c.Seats >= least && c.Trips <= fewest {
					want, fewest = c.Number, c.Trips
				}
			}
			if n, ok := impl.NextOut(list, least); ok != (want > 0) || n != want {
				t.Fatalf("NextOut(%v, %d) = %d, %v, not %d", list, least, n, ok, want)
			}
		}
	})
}

func TestFewestCabinsValues(t *testing.T) {
	ready := func(seats ...int) []impl.Cabin {
		list := []impl.Cabin{}
		for i, n := range seats {
			list = append(list, cabin(i+1, n, impl.CabinReady, i))
		}
		return list
	}
	twelve := ready(16, 16, 16, 16, 16, 16, 16, 16, 16, 16, 16, 16)
	cases := []struct {
		list   []impl.Cabin
		people int
		want   []int
	}{
		{nil, 0, nil}, {exampleCabins(), 0, nil}, {exampleCabins(), 1, []int{4}}, {exampleCabins(), 16, []int{4}}, {exampleCabins(), 17, []int{1, 4}}, {exampleCabins(), 24, []int{1, 4}},
		{exampleCabins(), 25, []int{1, 4, 11}}, {exampleCabins(), 32, []int{1, 4, 11}}, {exampleCabins(), 33, []int{1, 4, 11, 99}}, {exampleCabins(), 36, []int{1, 4, 11, 99}},
		{ready(1, 2, 3, 4), 1, []int{4}}, {ready(1, 2, 3, 4), 5, []int{3, 4}}, {ready(1, 2, 3, 4), 8, []int{2, 3, 4}}, {ready(1, 2, 3, 4), 10, []int{1, 2, 3, 4}},
		{ready(5, 5, 5), 5, []int{1}}, {ready(5, 5, 5), 6, []int{1, 2}}, {ready(4, 5, 5), 6, []int{2, 3}}, {ready(4, 6, 4), 9, []int{1, 2}}, {ready(4, 4, 6), 9, []int{1, 3}},
		{twelve, 192, []int{1, 2, 3, 4, 5, 6, 7, 8, 9, 10, 11, 12}}, {twelve, 176, []int{1, 2, 3, 4, 5, 6, 7, 8, 9, 10, 11}}, {twelve, 177, []int{1, 2, 3, 4, 5, 6, 7, 8, 9, 10, 11, 12}},
	}
	for _, c := range cases {
		if n, ok := impl.FewestCabins(c.list, c.people); !ok || !slices.Equal(n, c.want) {
			t.Errorf("FewestCabins(%v, %d) = %v, %v, not %v", c.list, c.people, n, ok, c.want)
		}
	}
	fails := []struct {
		list   []impl.Cabin
		people int
	}{
		{nil, 1}, {exampleCabins(), 37}, {exampleCabins(), 200}, {ready(1, 2, 3, 4), 11}, {twelve, 193}, {twelve, 200},
		{[]impl.Cabin{cabin(1, 16, impl.CabinOnLine, 0), cabin(2, 16, impl.CabinParked, 0), cabin(3, 16, impl.CabinBroken, 0)}, 1},
	}
	for _, people := range append(extremes(), 201) {
		fails = append(fails, struct {
			list   []impl.Cabin
			people int
		}{twelve, people})
	}
	for _, c := range fails {
		if n, ok := impl.FewestCabins(c.list, c.people); ok || len(n) != 0 {
			t.Errorf("FewestCabins(%v, %d) = %v, %v", c.list, c.people, n, ok)
		}
	}
}

// fewestOf goes through all sets of ready Cabins: the fewest ones with enough Seats, of these sets
// one with the most Seats, and of these the one with the smallest Numbers.
func fewestOf(list []impl.Cabin, people int) ([]int, bool) {
	best, bestSeats, found := []int{}, 0, false
	for set := range 1 << len(list) {
		chosen, seats, ready := []int{}, 0, true
		for i, c := range list {
			if set>>i&1 == 1 {
				chosen, seats, ready = append(chosen, c.Number), seats+c.Seats, ready && c.State == impl.CabinReady
			}
		}
		if !ready || seats < people || found && len(chosen) > len(best) {
			continue
		}
		if !found || len(chosen) < len(best) || seats > bestSeats || seats == bestSeats && slices.Compare(chosen, best) < 0 {
			best, bestSeats, found = chosen, seats, true
		}
	}
	return best, found
}

func TestFewestCabinsOfAllSets(t *testing.T) {
	found := 0
	check := func(list []impl.Cabin, people int) {
		want, wantOk := fewestOf(list, people)
		n, ok := impl.FewestCabins(list, people)
		if ok != wantOk || !slices.Equal(n, want) {
			t.Fatalf("FewestCabins(%v, %d) = %v, %v, not %v, %v", list, people, n, ok, want, wantOk)
		}
		found += len(n)
	}
	for seed := range 1000 {
		list := cabinsOf(seed)
		all := 0
		for _, c := range list {
			if c.State == impl.CabinReady {
				all += c.Seats
			}
		}
		for _, people := range []int{0, 1, all / 3, all / 2, max(all-1, 0), all, all + 1, seed % 201} {
			check(list, people)
		}
	}
	if found < 10000 {
		t.Errorf("only %d Cabins", found)
	}
}

func TestWornCabinsValues(t *testing.T) {
	most := mostCabins()
	cases := []struct {
		list  []impl.Cabin
		trips int
		want  []int
	}{
		{exampleCabins(), 1, []int{2, 7, 1, 4, 11, 60}}, {exampleCabins(), 3, []int{2, 7, 1, 4, 11, 60}}, {exampleCabins(), 4, []int{2, 7, 1, 4, 11}}, {exampleCabins(), 5, []int{2, 7, 1, 4}},
		{exampleCabins(), 6, []int{2, 7}}, {exampleCabins(), 9, []int{2, 7}}, {exampleCabins(), 10, nil}, {exampleCabins(), 99999, nil}, {nil, 1, nil},
		{most, 99999, []int{most[0].Number, most[2].Number, most[4].Number, most[6].Number, most[8].Number, most[10].Number}},
		{[]impl.Cabin{cabin(1, 1, impl.CabinReady, 2), cabin(2, 1, impl.CabinOnLine, 3), cabin(3, 1, impl.CabinParked, 4), cabin(4, 1, impl.CabinBroken, 5)}, 2, []int{3, 2, 1}},
	}
	for _, c := range cases {
		if n, ok := impl.WornCabins(c.list, c.trips); !ok || !slices.Equal(n, c.want) {
			t.Errorf("WornCabins(%v, %d) = %v, %v, not %v", c.list, c.trips, n, ok, c.want)
		}
	}
	for _, trips := range append(extremes(), 0, 100000) {
		if n, ok := impl.WornCabins(most, trips); ok || len(n) != 0 {
			t.Errorf("WornCabins(%d) = %v, %v", trips, n, ok)
		}
	}
}

func TestWornCabinsOfManyLists(t *testing.T) {
	eachCabins(func(list []impl.Cabin) {
		for _, trips := range []int{1, 2, 3, 50000, 99997, 99998, 99999} {
			n, ok := impl.WornCabins(list, trips)
			if !ok {
				t.Fatalf("WornCabins(%v, %d) fails", list, trips)
			}
			worn := map[int]int{}
			for _, c := range list {
				if c.State != impl.CabinBroken && c.Trips >= trips {
					worn[c.Number] = c.Trips
				}
			}
			for i, number := range n {
				made, isWorn := worn[number]
				if !isWorn || i > 0 && (made > worn[n[i-1]] || made == worn[n[i-1]] && number <= n[i-1]) {
					t.Fatalf("WornCabins(%v, %d) = %v", list, trips, n)
				}
			}
			if len(n) != len(worn) {
				t.Fatalf("WornCabins(%v, %d) = %v", list, trips, n)
			}
		}
	})
}

// cabinTexts are texts of Cabins that meet the limits, in each State.
func cabinTexts() map[string]impl.Cabin {
	return map[string]impl.Cabin{
		"cabin 2: 4 seats, 300 kg, on line, 9 trips":         {Number: 2, Seats: 4, Empty: 300, State: impl.CabinOnLine, Trips: 9},
		"cabin 1: 1 seats, 100 kg, ready, 0 trips":           {Number: 1, Seats: 1, Empty: 100},
		"cabin 99: 16 seats, 2000 kg, broken, 99999 trips":   {Number: 99, Seats: 16, Empty: 2000, State: impl.CabinBroken, Trips: 99999},
		"cabin 10: 10 seats, 1000 kg, parked, 1 trips":       {Number: 10, Seats: 10, Empty: 1000, State: impl.CabinParked, Trips: 1},
		"cabin 50: 12 seats, 999 kg, ready, 12345 trips":     {Number: 50, Seats: 12, Empty: 999, State: impl.CabinReady, Trips: 12345},
		"cabin 31: 2 seats, 1020 kg, on line, 10000 trips":   {Number: 31, Seats: 2, Empty: 1020, State: impl.CabinOnLine, Trips: 10000},
		"cabin 100: 4 seats, 300 kg, on line, 9 trips":       {},
		"cabin 0: 4 seats, 300 kg, on line, 9 trips":         {},
		"cabin 2: 17 seats, 300 kg, on line, 9 trips":        {},
		"cabin 2: 0 seats, 300 kg, on line, 9 trips":         {},
		"cabin 2: 4 seats, 99 kg, on line, 9 trips":          {},
		"cabin 2: 4 seats, 2001 kg, on line, 9 trips":        {},
		"cabin 2: 4 seats, 300 kg, on line, 100000 trips":    {},
		"cabin 2: 4 seats, 300 kg, on line, -1 trips":        {},
		"cabin 2: 4 seats, 300 kg, , 9 trips":                {},
		"cabin 2: 4 seats, 300 kg, away, 9 trips":            {},
		"cabin 2: 4 seats, 300 kg, 1, 9 trips":               {},
		"cabin 2: 4 seats, 300 kg, On line, 9 trips":         {},
		"cabin 2: 4 seats, 300 kg, on  line, 9 trips":        {},
		"cabin 2: 4 seats, 300 kg, ready, parked, 9 trips":   {},
		"cabin 02: 4 seats, 300 kg, on line, 9 trips":        {},
		"cabin 2: +4 seats, 300 kg, on line, 9 trips":        {},
		"cabin 2: 4 seats, 300.0 kg, on line, 9 trips":       {},
		"cabin 2: 4 seats, 300 kg, on line, 09 trips":        {},
		"cabin 2: 4 seats, 300 kg, on line, -0 trips":        {},
		"cabin 2: 4 seats, 300 kg, on line,  trips":          {},
		"cabin 1: 1 seats, 100 kg, ready,  trips":            {},
		"cabin 1: 1 seats, 100 kg, ready, trips":             {},
		"cabin 1: 1 seat, 100 kg, ready, 1 trip":             {},
		"Cabin 2: 4 seats, 300 kg, on line, 9 trips":         {},
		"2: 4 seats, 300 kg, on line, 9 trips":               {},
		" cabin 2: 4 seats, 300 kg, on line, 9 trips":        {},
		"cabin 2: 4 seats, 300 kg, on line, 9 trips ":        {},
		"cabin 2: 4 seats, 300 kg, on line, 9 trips\n":       {},
		"cabin 2: 4 seats, 300 kg, on line, 9":               {},
		"cabin 2: 4 seats, 300 kg, on line":                  {},
		"cabin 2: 300 kg, 4 seats, on line, 9 trips":         {},
		"cabin cabin 2: 4 seats, 300 kg, on line, 9 trips":   {},
		"cabin 2: 4 seats, 300 kg, on line, 9 trips trips":   {},
		"cabin 2: 4 seats, 4 seats, 300 kg, ready, 9 trips":  {},
		"cabin 2: 3: 4 seats, 300 kg, on line, 9 trips":      {},
		"cabin 2: 4 seats, 300 kg, 300 kg, ready, 9 trips":   {},
		"cabin 2:4 seats,300 kg,on line,9 trips":             {},
		"cabin 2; 4 seats; 300 kg; on line; 9 trips":         {},
		"cabin 2: 4 seats, 300 kg, on line, 9 trips\x00":     {},
		"cabin : 4 seats, 300 kg, on line, 9 trips":          {},
		"cabin 2: 4 seats, 300 kg, on line, 9, 9 trips":      {},
		"cabin 9999999999999999999: 4 seats, 300 kg, ready,": {},
		"": {}, "cabin": {}, "cabin ": {}, ": ": {}, " seats, ": {}, " trips": {}, "cabin : seats,  kg, , trips": {},
	}
}

func TestCabinTextsAndNoTexts(t *testing.T) {
	for text, want := range cabinTexts() {
		c, ok := impl.ParseCabin(text)
		if isText := want != (impl.Cabin{}); ok != isText || c != want {
			t.Errorf("ParseCabin(%q) = %+v, %v", text, c, ok)
		}
		s, ok := impl.CabinText(want)
		if want == (impl.Cabin{}) {
			text = ""
		}
		if ok != (text != "") || s != text {
			t.Errorf("CabinText(%+v) = %q, %v", want, s, ok)
		}
	}
	for _, wrong := range invalidCabins() {
		if s, ok := impl.CabinText(wrong); ok || s != "" {
			t.Errorf("CabinText(%+v) = %q, %v", wrong, s, ok)
		}
	}
	for _, long := range []string{strings.Repeat("cabin ", 100000), strings.Repeat(", ", 100000), "cabin 2: 4 seats, 300 kg, on line, " + strings.Repeat("9", 100000) + " trips"} {
		if c, ok := impl.ParseCabin(long); ok || c != (impl.Cabin{}) {
			t.Errorf("ParseCabin of %d bytes = %+v, %v", len(long), c, ok)
		}
	}
}

func TestCabinTextAndParseCabinRoundTrip(t *testing.T) {
	names := []string{"ready", "on line", "parked", "broken"}
	eachCabins(func(list []impl.Cabin) {
		for _, c := range list {
			want := fmt.Sprintf("cabin %d: %d seats, %d kg, %s, %d trips", c.Number, c.Seats, c.Empty, names[c.State], c.Trips)
			s, ok := impl.CabinText(c)
			back, backOk := impl.ParseCabin(s)
			if !ok || s != want || !backOk || back != c {
				t.Fatalf("CabinText(%+v) = %q, %v, and back %+v, %v", c, s, ok, back, backOk)
			}
		}
	})
}

// TestParseCabinAcceptsOnlyWhatCabinTextWrites changes, takes away and inserts single bytes, and
// takes away and repeats parts.
func TestParseCabinAcceptsOnlyWhatCabinTextWrites(t *testing.T) {
	accepted := 0
	check := func(s string) {
		c, ok := impl.ParseCabin(s)
		text, isCabin := impl.CabinText(c)
		if ok != isCabin || ok && text != s || !ok && c != (impl.Cabin{}) {
			t.Fatalf("ParseCabin(%q) = %+v, %v", s, c, ok)
		}
		if ok {
			accepted++
		}
	}
	for text := range cabinTexts() {
		for i := range len(text) {
			for b := range 256 {
				check(text[:i] + string([]byte{byte(b)}) + text[i+1:])
				check(text[:i] + string([]byte{byte(b)}) + text[i:])
			}
			for j := i; j <= len(text); j++ {
				check(text[:i] + text[j:])
				check(text[:j] + text[i:])
			}
		}
	}
	if accepted < 500 {
		t.Errorf("only %d texts are accepted", accepted)
	}
}

// cabinResults returns the results of all functions of the chapter as text. It fails the test if
// one of them succeeds for an invalid list, or returns a result beside false that is not zero.
func cabinResults(t *testing.T, list []impl.Cabin, n int, m int) string {
	t.Helper()
	valid := impl.AreCabins(list)
	moved, movedOk := impl.MoveCabin(list, n, m)
	in, inOk := impl.CabinsIn(list, m)
	seats, seatsOk := impl.SeatsOnLine(list)
	next, nextOk := impl.NextOut(list, m)
	fewest, fewestOk := impl.FewestCabins(list, m)
	worn, wornOk := impl.WornCabins(list, m)
	if inOk != (valid && 0 <= m && m <= 3) || seatsOk != valid || wornOk != (valid && 1 <= m && m <= 99999) || !valid && (movedOk || nextOk || fewestOk) {
		t.Fatalf("%.300s, %d, %d: valid is %v, and a function returns something else", fmt.Sprint(list), n, m, valid)
	}
	if !seatsOk && seats != 0 || !nextOk && next != 0 || !movedOk && len(moved) != 0 || !inOk && len(in) != 0 || !fewestOk && len(fewest) != 0 || !wornOk && len(worn) != 0 {
		t.Fatalf("%.300s, %d, %d: a result beside false is not zero", fmt.Sprint(list), n, m)
	}
	if movedOk && !impl.AreCabins(moved) {
		t.Fatalf("%v, %d, %d: the result %v is not valid", list, n, m, moved)
	}
	return fmt.Sprint(valid, moved, movedOk, in, seats, next, nextOk, fewest, fewestOk, worn)
}

// TestCabinsReturnForAllArguments gives valid and invalid arguments to every function of the
// chapter, as a part of a longer list, and expects that nothing in this list changes, that what
// stands behind the Cabins does not count, and that a second call returns the same.
func TestCabinsReturnForAllArguments(t *testing.T) {
	behind := []impl.Cabin{cabin(99, 16, impl.CabinReady, 0), cabin(98, 16, impl.CabinOnLine, 99999), cabin(math.MinInt, 0, -1, math.MaxInt)}
	check := func(list []impl.Cabin, n, m int) {
		memory := append(slices.Clone(list), behind...)
		before := slices.Clone(memory)
		first := cabinResults(t, slices.Clone(list), n, m)
		if second := cabinResults(t, memory[:len(list)], n, m); second != first {
			t.Fatalf("%.300s and then %.300s", first, second)
		}
		if !slices.Equal(memory, before) {
			t.Fatalf("the argument %.300s is changed", fmt.Sprint(list))
		}
	}
	for seed := range 500 {
		list := cabinsOf(seed)
		for i := range 5 {
			check(list, 1+seed%50, i)
			if len(list) > 0 {
				check(list, list[seed%len(list)].Number, i)
			}
		}
	}
	for _, list := range append(invalidCabinLists(), exampleCabins(), mostCabins(), nil) {
		for _, n := range append(extremes(), 0, 1, 2, 9) {
			check(list, n, 1)
			check(list, 1, n)
			check(list, n, n)
		}
	}
	for _, n := range extremes() {
		for _, m := range append(extremes(), 1, 8) {
			c := impl.Cabin{Number: n, Seats: m, Empty: n, State: m, Trips: n}
			check([]impl.Cabin{c}, n, m)
			load, ok := impl.CabinLoad(c, m)
			text, isText := impl.CabinText(c)
			if ok || isText || load != 0 || text != "" {
				t.Errorf("%+v: %d, %v, %q, %v", c, load, ok, text, isText)
			}
		}
	}
}

// TestCabinsReturnNewMemory changes the results, and behind their length, and expects that neither
// the argument nor a later result changes with them.
func TestCabinsReturnNewMemory(t *testing.T) {
	memory := exampleCabins()
	before := slices.Clone(memory)
	for count := 1; count <= len(memory); count++ {
		list := memory[:count]
		moved, ok := impl.MoveCabin(list, 1, impl.CabinParked)
		again, _ := impl.MoveCabin(list, 1, impl.CabinParked)
		kept := slices.Clone(again)
		if !ok || !slices.Equal(moved, again) {
			t.Fatalf("MoveCabin(%v) = %v, %v and then %v", list, moved, ok, again)
		}
		_ = append(moved[:1], cabin(77, 7, 7, 7), cabin(78, 8, 8, 8))
		clear(moved)
		if !slices.Equal(memory, before) || !slices.Equal(again, kept) {
			t.Errorf("the result of MoveCabin(%v) shares memory", list)
		}
		for _, f := range []func([]impl.Cabin, int) ([]int, bool){impl.CabinsIn, impl.FewestCabins, impl.WornCabins} {
			for n := range 4 {
				one, _ := f(list, n)
				two, _ := f(list, n)
				kept := slices.Clone(two)
				clear(one)
				if !slices.Equal(two, kept) || !slices.Equal(memory, before) {
					t.Errorf("a result of %v, %d shares memory", list, n)
				}
			}
		}
	}
}
