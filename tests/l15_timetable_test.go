package tests

import (
	"fmt"
	"math"
	"slices"
	"testing"

	"loop.example/g00935/impl"
)

func ride(from, to, depart, arrive, seats int) impl.Ride {
	return impl.Ride{From: from, To: to, Depart: depart, Arrive: arrive, Seats: seats}
}

// exampleRides lead from the valley over the stop 1 to the stop 2 and back, and once more up to the
// stop 2 when the last Ride down from there has gone.
func exampleRides() []impl.Ride {
	return []impl.Ride{ride(0, 1, 480, 490, 60), ride(1, 2, 500, 510, 60), ride(2, 1, 960, 970, 60), ride(1, 0, 980, 990, 60), ride(1, 2, 985, 995, 8)}
}

// promptRides arrive at just the minute at which the next ones depart, and stand in a list from the
// last one to the first one.
func promptRides() []impl.Ride {
	return []impl.Ride{ride(5, 0, 50, 1439, 500), ride(4, 5, 40, 50, 0), ride(3, 4, 30, 40, 7), ride(2, 3, 20, 30, 6), ride(1, 2, 10, 20, 5), ride(0, 1, 0, 10, 4)}
}

// missedRides are promptRides of which each departs a minute before the one before it arrives.
func missedRides() []impl.Ride {
	rides := promptRides()
	for i := range rides[:5] {
		rides[i].Depart--
	}
	return rides
}

// isRideOf tells whether a Ride is valid, with the limits as numbers.
func isRideOf(r impl.Ride) bool {
	stops := r.From >= 0 && r.From <= 5 && r.To >= 0 && r.To <= 5 && r.From != r.To
	return stops && r.Depart >= 0 && r.Depart < r.Arrive && r.Arrive <= 1439 && r.Seats >= 0 && r.Seats <= 500
}

func isTimetableOf(rides []impl.Ride) bool {
	return len(rides) <= 12 && !slices.ContainsFunc(rides, func(r impl.Ride) bool { return !isRideOf(r) })
}

// isDayMinute and isStopOf give the bounds of the other arguments as numbers.
func isDayMinute(minute int) bool { return minute >= 0 && minute <= 1439 }

func isStopOf(stop int) bool { return stop >= 0 && stop <= 5 }

// ridesOf returns Rides of which many go on where another one ends, at the same minute, a bit later or
// just too early, in any order; those of some seeds lie at the end of the day.
func ridesOf(seed int) []impl.Ride {
	next := numbers(seed)
	stops, minutes := 2+next(5), 3+next(30)
	rides := []impl.Ride{}
	for range 12 - next(4)*next(4) {
		from, depart := next(stops), next(minutes)
		if n := len(rides); n > 0 && next(4) > 0 {
			from, depart = rides[n-1].To, max(rides[n-1].Arrive+next(4)-1, 0)
		}
		arrive := depart + 1 + next(5)
		rides = append(rides, ride(from, (from+1+next(stops-1))%stops, depart, arrive, next(501)))
	}
	for i, r := range rides {
		if seed%4 == 0 {
			r.Depart, r.Arrive = 1439-r.Arrive, 1439-r.Depart
		}
		if seed%3 == 0 {
			r.From, r.To = 5-r.From, 5-r.To
		}
		k := next(i + 1)
		rides[i], rides[k] = rides[k], r
	}
	return rides
}

// eachRides calls f with valid timetables of all lengths.
func eachRides(f func(rides []impl.Ride)) {
	for _, rides := range [][]impl.Ride{nil, {}, exampleRides(), promptRides(), missedRides(), slices.Repeat(promptRides(), 2), slices.Repeat(exampleRides(), 2)} {
		f(rides)
	}
	for seed := range 800 {
		f(ridesOf(seed))
	}
}

// journeysOf returns all journeys that begin at a stop, as lists of indices, the empty one too.
func journeysOf(rides []impl.Ride, from int) [][]int {
	all := [][]int{{}}
	for k := 0; k < len(all); k++ {
		for i, r := range rides {
			if n := len(all[k]); n == 0 && r.From == from || n > 0 && follows(rides[all[k][n-1]], r) {
				all = append(all, append(slices.Clone(all[k]), i))
			}
		}
	}
	return all
}

// follows tells whether one can change from a Ride to another one.
func follows(before, after impl.Ride) bool {
	return before.To == after.From && !(after.Depart < before.Arrive)
}

// trip is what a journey of at least one Ride is from the outside.
type trip struct{ from, to, depart, arrive, rides int }

// tripsOf returns what all journeys between any stops are from the outside.
func tripsOf(rides []impl.Ride) []trip {
	trips := []trip{}
	for from := range 6 {
		for _, journey := range journeysOf(rides, from)[1:] {
			last := rides[journey[len(journey)-1]]
			trips = append(trips, trip{from, last.To, rides[journey[0]].Depart, last.Arrive, len(journey)})
		}
	}
	return trips
}

// minutesAround returns the first and the last minute of the day, and those around all departures
// and arrivals.
func minutesAround(rides []impl.Ride) []int {
	minutes := []int{0, 1439}
	for _, r := range rides {
		for _, minute := range []int{r.Depart, r.Arrive} {
			for shift := -1; shift <= 1; shift++ {
				if isDayMinute(minute + shift) {
					minutes = append(minutes, minute+shift)
				}
			}
		}
	}
	slices.Sort(minutes)
	return slices.Compact(minutes)
}

// invalidRides returns Rides of which one number is outside its bounds, or that lead nowhere or take
// no time.
func invalidRides() []impl.Ride {
	list := []impl.Ride{
		ride(1, 1, 0, 5, 0), ride(0, 0, 480, 490, 60), ride(5, 5, 480, 490, 60), ride(0, 1, 5, 5, 0), ride(0, 1, 0, 0, 1), ride(0, 1, 1439, 1439, 1), ride(0, 1, 6, 5, 0), ride(0, 1, 1439, 0, 0), ride(0, 1, 1439, 1440, 0), ride(0, 1, 1438, 1440, 0), ride(0, 1, -1, 5, 0), ride(0, 1, -2, -1, 0),
		ride(6, 1, 5, 6, 7), ride(1, 6, 5, 6, 7), ride(-1, 0, 5, 6, 7), ride(0, -1, 5, 6, 7), ride(6, 7, 5, 6, 7), ride(-1, -2, 5, 6, 7), ride(0, 1, 5, 6, 501), ride(0, 1, 5, 6, -1), ride(1, 0, 1440, 1441, 5),
	}
	for _, n := range extremes() {
		list = append(list, ride(n, 1, 5, 6, 7), ride(1, n, 5, 6, 7), ride(n, n, 5, 6, 7), ride(0, 1, 5, 6, n), ride(n, n, n, n, n))
		if n < 0 {
			list = append(list, ride(0, 1, n, 6, 7), ride(0, 1, n, n+1, 7), ride(0, 1, 5, n, 7))
		} else {
			list = append(list, ride(0, 1, 5, n, 7), ride(0, 1, n-1, n, 7), ride(0, 1, n, 6, 7))
		}
	}
	return list
}

// invalidTimetables returns lists with one invalid Ride, wherever it stands, and with too many Rides.
func invalidTimetables() [][]impl.Ride {
	list := [][]impl.Ride{}
	for i, r := range invalidRides() {
		list = append(list, []impl.Ride{r}, slices.Insert(exampleRides(), i%6, r), append(slices.Repeat(exampleRides(), 2), ride(0, 1, 5, 6, 7), r))
	}
	for _, length := range []int{13, 14, 100} {
		list = append(list, slices.Repeat([]impl.Ride{ride(1, 0, 5, 6, 7)}, length), slices.Repeat(exampleRides(), length)[:length])
	}
	return list
}

func wrongStops() []int { return append(extremes(), -2, 6, 7) }

func wrongMinutes() []int { return append(extremes(), -2, 1440, 1441) }

func TestTimetableConstants(t *testing.T) {
	if impl.MaxTrips != 12 || impl.MaxStops != 6 || impl.LastMinute != 1439 {
		t.Errorf("MaxTrips is %d, MaxStops %d and LastMinute %d", impl.MaxTrips, impl.MaxStops, impl.LastMinute)
	}
}

func TestIsTimetableUpToTheLimits(t *testing.T) {
	valid := 0
	check := func(rides []impl.Ride) {
		want := isTimetableOf(rides)
		if want {
			valid++
		}
		if impl.IsTimetable(rides) != want {
			t.Fatalf("%.300s is a timetable: %v", fmt.Sprint(rides), !want)
		}
	}
	for from := -2; from <= 7; from++ {
		for to := -2; to <= 7; to++ {
			for _, depart := range []int{-1, 0, 1, 700, 1437, 1438, 1439, 1440} {
				for _, arrive := range []int{-1, 0, 1, 2, 699, 700, 701, 1438, 1439, 1440} {
					for _, seats := range []int{-1, 0, 1, 499, 500, 501} {
						check([]impl.Ride{ride(from, to, depart, arrive, seats)})
					}
				}
			}
		}
	}
	if valid < 2000 {
		t.Errorf("only %d Rides are valid", valid)
	}
	eachRides(check)
	for length := range 20 {
		check(slices.Repeat([]impl.Ride{ride(0, 5, 0, 1439, 500)}, length))
	}
	for _, rides := range invalidTimetables() {
		check(rides)
		if impl.IsTimetable(rides) {
			t.Errorf("%.300s is a timetable", fmt.Sprint(rides))
		}
	}
	if !impl.IsTimetable(nil) || !impl.IsTimetable(exampleRides()) || !impl.IsTimetable(slices.Repeat(promptRides(), 2)) {
		t.Error("no Rides, or twelve, are no timetable")
	}
}

func TestIsJourneyValues(t *testing.T) {
	around := []impl.Ride{ride(0, 1, 5, 10, 0), ride(1, 0, 10, 15, 0), ride(0, 1, 14, 20, 0), ride(0, 1, 15, 20, 0), ride(1, 0, 20, 25, 0)}
	cases := []struct {
		rides    []impl.Ride
		journey  []int
		from, to int
		want     bool
	}{
		{exampleRides(), []int{0, 1}, 0, 2, true}, {exampleRides(), []int{1, 0}, 0, 2, false}, {exampleRides(), []int{0, 1, 2, 3}, 0, 0, true}, {exampleRides(), []int{2, 3}, 2, 0, true}, {exampleRides(), []int{0, 4}, 0, 2, true}, {exampleRides(), []int{2, 4}, 2, 2, true}, {exampleRides(), []int{3}, 1, 0, true}, {exampleRides(), []int{0, 3}, 0, 0, true},
		// The stops must be those at which the list begins and ends.
		{exampleRides(), []int{0, 1}, 0, 1, false}, {exampleRides(), []int{0, 1}, 1, 2, false}, {exampleRides(), []int{0, 1}, 2, 0, false}, {exampleRides(), []int{0}, 1, 0, false}, {exampleRides(), []int{0}, 1, 1, false},
		// A stop is left out, or the next Ride has gone, or is the same one.
		{exampleRides(), []int{0, 2}, 0, 1, false}, {exampleRides(), []int{4, 2}, 1, 1, false}, {exampleRides(), []int{0, 0}, 0, 1, false}, {exampleRides(), []int{0, 1, 1}, 0, 2, false}, {exampleRides(), []int{1, 2, 1}, 1, 2, false},
		// Who arrives at the minute of the departure goes on.
		{promptRides(), []int{5, 4, 3, 2, 1, 0}, 0, 0, true}, {promptRides(), []int{3, 2}, 2, 4, true}, {missedRides(), []int{5, 4, 3, 2, 1, 0}, 0, 0, false}, {missedRides(), []int{3, 2}, 2, 4, false}, {missedRides(), []int{0}, 5, 0, true},
		{around, []int{0, 1}, 0, 0, true}, {around, []int{0, 1, 3}, 0, 1, true}, {around, []int{0, 1, 2}, 0, 1, false}, {around, []int{0, 1, 3, 4}, 0, 0, true}, {around, []int{1, 3, 4}, 1, 0, true}, {around, []int{2, 4}, 0, 0, true},
		// The empty list.
		{exampleRides(), nil, 2, 2, true}, {exampleRides(), []int{}, 0, 0, true}, {exampleRides(), nil, 4, 4, true}, {exampleRides(), nil, 0, 1, false}, {exampleRides(), nil, 1, 0, false}, {nil, nil, 5, 5, true}, {nil, nil, 5, 0, false},
		// Rides that do not exist.
		{exampleRides(), []int{5}, 0, 1, false}, {exampleRides(), []int{-1}, 0, 1, false}, {exampleRides(), []int{0, 5}, 0, 2, false}, {exampleRides(), []int{0, 1, -1}, 0, 2, false}, {nil, []int{0}, 0, 0, false}, {exampleRides(), []int{math.MaxInt}, 0, 0, false}, {exampleRides(), []int{0, math.MinInt}, 0, 1, false},
	}
	for _, c := range cases {
		if is, ok := impl.IsJourney(c.rides, c.journey, c.from, c.to); !ok || is != c.want {
			t.Errorf("IsJourney(%v, %v, %d, %d) = %v, %v", c.rides, c.journey, c.from, c.to, is, ok)
		}
	}
	long := make([]int, 100000)
	if is, ok := impl.IsJourney(exampleRides(), long, 0, 1); !ok || is {
		t.Errorf("a list of %d Rides is a journey: %v, %v", len(long), is, ok)
	}
}

// TestIsJourneyOfManyLists tries all lists of up to three numbers, and all journeys that there are.
func TestIsJourneyOfManyLists(t *testing.T) {
	journeys := 0
	for seed := range 60 {
		rides := ridesOf(seed)
		rides = rides[:min(len(rides), 6)]
		for from := range 6 {
			known := map[string]int{}
			for _, journey := range journeysOf(rides, from) {
				to := from
				if len(journey) > 0 {
					to = rides[journey[len(journey)-1]].To
				}
				known[fmt.Sprint(journey)] = to
			}
			journeys += len(known)
			check := func(journey []int) {
				end, is := known[fmt.Sprint(journey)]
				for to := range 6 {
					if got, ok := impl.IsJourney(rides, journey, from, to); !ok || got != (is && end == to) {
						t.Fatalf("IsJourney(%v, %v, %d, %d) = %v, %v", rides, journey, from, to, got, ok)
					}
				}
			}
			for a := -1; a <= len(rides); a++ {
				check([]int{a})
				for b := -1; b <= len(rides); b++ {
					check([]int{a, b})
					for c := -1; c <= len(rides); c++ {
						check([]int{a, b, c})
					}
				}
			}
			for _, journey := range journeysOf(rides, from) {
				check(journey)
				check(slices.Concat(journey, journey))
			}
		}
	}
	if journeys < 1000 {
		t.Errorf("there are only %d journeys", journeys)
	}
}

func TestEarliestArrivalAndFewestRidesValues(t *testing.T) {
	slow := []impl.Ride{ride(0, 3, 100, 400, 1), ride(2, 3, 300, 310, 1), ride(1, 2, 200, 210, 1), ride(0, 1, 100, 110, 1)}
	// Who comes to the stop 1 with one Ride misses what one catches with two.
	late := []impl.Ride{ride(0, 1, 10, 90, 1), ride(0, 2, 10, 20, 1), ride(2, 1, 20, 30, 1), ride(1, 3, 30, 40, 1), ride(3, 4, 40, 50, 1), ride(1, 4, 90, 99, 1)}
	cases := []struct {
		rides            []impl.Ride
		from, to, minute int
		arrival, number  int
	}{
		{exampleRides(), 0, 2, 475, 510, 2}, {exampleRides(), 0, 2, 480, 510, 2}, {exampleRides(), 1, 2, 500, 510, 1}, {exampleRides(), 1, 2, 501, 995, 1}, {exampleRides(), 1, 2, 985, 995, 1}, {exampleRides(), 2, 0, 0, 990, 2}, {exampleRides(), 2, 0, 960, 990, 2}, {exampleRides(), 2, 1, 960, 970, 1}, {exampleRides(), 0, 1, 0, 490, 1},
		// The same stop.
		{exampleRides(), 3, 3, 5, 5, 0}, {exampleRides(), 0, 0, 0, 0, 0}, {exampleRides(), 1, 1, 1439, 1439, 0}, {nil, 5, 5, 700, 700, 0}, {promptRides(), 0, 0, 0, 0, 0},
		// Arriving at the minute of the departure.
		{promptRides(), 1, 0, 10, 1439, 5}, {promptRides(), 0, 5, 0, 50, 5}, {promptRides(), 2, 4, 20, 40, 2}, {missedRides(), 5, 0, 49, 1439, 1},
		{slow, 0, 3, 100, 310, 1}, {slow, 0, 3, 0, 310, 1}, {slow, 0, 2, 0, 210, 2}, {slow, 1, 3, 200, 310, 2}, {late, 0, 1, 0, 30, 1}, {late, 0, 3, 10, 40, 3}, {late, 0, 4, 10, 50, 2}, {late, 1, 4, 31, 99, 1}, {late, 2, 4, 20, 50, 2},
	}
	for _, c := range cases {
		if n, ok := impl.EarliestArrival(c.rides, c.from, c.to, c.minute); !ok || n != c.arrival {
			t.Errorf("EarliestArrival(%v, %d, %d, %d) = %d, %v, not %d", c.rides, c.from, c.to, c.minute, n, ok, c.arrival)
		}
		if n, ok := impl.FewestRides(c.rides, c.from, c.to, c.minute); !ok || n != c.number {
			t.Errorf("FewestRides(%v, %d, %d, %d) = %d, %v, not %d", c.rides, c.from, c.to, c.minute, n, ok, c.number)
		}
	}
	none := []struct {
		rides            []impl.Ride
		from, to, minute int
	}{
		{exampleRides(), 0, 2, 481}, {exampleRides(), 0, 1, 481}, {exampleRides(), 0, 3, 0}, {exampleRides(), 3, 0, 0}, {exampleRides(), 2, 0, 961}, {exampleRides(), 1, 2, 986}, {exampleRides(), 1, 0, 981}, {nil, 0, 1, 0}, {promptRides(), 0, 1, 1}, {promptRides(), 1, 0, 11}, {missedRides(), 1, 3, 9}, {missedRides(), 2, 4, 0}, {late, 0, 3, 11}, {late, 2, 3, 21},
	}
	for _, c := range none {
		if n, ok := impl.EarliestArrival(c.rides, c.from, c.to, c.minute); ok || n != 0 {
			t.Errorf("EarliestArrival(%v, %d, %d, %d) = %d, %v", c.rides, c.from, c.to, c.minute, n, ok)
		}
		if n, ok := impl.FewestRides(c.rides, c.from, c.to, c.minute); ok || n != 0 {
			t.Errorf("FewestRides(%v, %d, %d, %d) = %d, %v", c.rides, c.from, c.to, c.minute, n, ok)
		}
	}
}

func TestLatestDepartureValues(t *testing.T) {
	cases := []struct {
		rides            []impl.Ride
		from, to, minute int
		want             int
	}{
		{exampleRides(), 2, 0, 1439, 960}, {exampleRides(), 2, 0, 990, 960}, {exampleRides(), 1, 0, 990, 980}, {exampleRides(), 0, 2, 510, 480}, {exampleRides(), 0, 2, 994, 480}, {exampleRides(), 0, 2, 1439, 480}, {exampleRides(), 1, 2, 995, 985}, {exampleRides(), 1, 2, 994, 500}, {exampleRides(), 2, 1, 970, 960},
		// The same stop.
		{exampleRides(), 3, 3, 5, 5}, {exampleRides(), 0, 0, 0, 0}, {exampleRides(), 0, 0, 1439, 1439}, {nil, 4, 4, 1439, 1439}, {promptRides(), 0, 0, 1439, 1439},
		// Arriving at the minute of the departure, and of the end.
		{promptRides(), 1, 0, 1439, 10}, {promptRides(), 0, 5, 50, 0}, {promptRides(), 2, 4, 40, 20}, {promptRides(), 0, 1, 10, 0}, {missedRides(), 5, 0, 1439, 49},
	}
	for _, c := range cases {
		if n, ok := impl.LatestDeparture(c.rides, c.from, c.to, c.minute); !ok || n != c.want {
			t.Errorf("LatestDeparture(%v, %d, %d, %d) = %d, %v, not %d", c.rides, c.from, c.to, c.minute, n, ok, c.want)
		}
	}
	none := []struct {
		rides            []impl.Ride
		from, to, minute int
	}{
		{exampleRides(), 2, 0, 989}, {exampleRides(), 1, 0, 989}, {exampleRides(), 0, 2, 509}, {exampleRides(), 3, 0, 1439}, {exampleRides(), 0, 3, 1439}, {nil, 1, 0, 1439}, {promptRides(), 1, 0, 1438}, {promptRides(), 0, 1, 9}, {missedRides(), 4, 0, 1439}, {missedRides(), 2, 4, 1439},
	}
	for _, c := range none {
		if n, ok := impl.LatestDeparture(c.rides, c.from, c.to, c.minute); ok || n != 0 {
			t.Errorf("LatestDeparture(%v, %d, %d, %d) = %d, %v", c.rides, c.from, c.to, c.minute, n, ok)
		}
	}
}

// bestOf returns, among all journeys, the earliest arrival and the fewest Rides of those that begin at
// a minute at the earliest, and the latest departure of those that end at it at the latest; -1 where
// there is none.
func bestOf(trips []trip, from, to, minute int) (int, int, int) {
	if from == to {
		return minute, 0, minute
	}
	arrival, number, departure := -1, -1, -1
	for _, x := range trips {
		if x.from != from || x.to != to {
			continue
		}
		if x.depart >= minute && (arrival < 0 || x.arrive < arrival) {
			arrival = x.arrive
		}
		if x.depart >= minute && (number < 0 || x.rides < number) {
			number = x.rides
		}
		if x.arrive <= minute && x.depart > departure {
			departure = x.depart
		}
	}
	return arrival, number, departure
}

// TestTheBestOfAllJourneys compares what the functions find with all journeys that there are.
func TestTheBestOfAllJourneys(t *testing.T) {
	found, several, none := 0, 0, 0
	check := func(name string, n int, ok bool, want int, rides []impl.Ride, from, to, minute int) {
		if ok != (want >= 0) || n != max(want, 0) {
			t.Fatalf("%s(%v, %d, %d, %d) = %d, %v, not %d", name, rides, from, to, minute, n, ok, want)
		}
	}
	eachRides(func(rides []impl.Ride) {
		trips := tripsOf(rides)
		for _, minute := range minutesAround(rides) {
			for from := range 6 {
				for to := range 6 {
					arrival, number, departure := bestOf(trips, from, to, minute)
					n, ok := impl.EarliestArrival(rides, from, to, minute)
					check("EarliestArrival", n, ok, arrival, rides, from, to, minute)
					n, ok = impl.FewestRides(rides, from, to, minute)
					check("FewestRides", n, ok, number, rides, from, to, minute)
					n, ok = impl.LatestDeparture(rides, from, to, minute)
					check("LatestDeparture", n, ok, departure, rides, from, to, minute)
					switch {
					case number > 1:
						several++
					case number == 1:
						found++
					case number < 0:
						none++
					}
				}
			}
		}
	})
	if found < 10000 || several < 10000 || none < 10000 {
		t.Errorf("there are only %d direct journeys, %d with changes, and %d times none", found, several, none)
	}
}

func TestReachedByValues(t *testing.T) {
	cases := []struct {
		rides               []impl.Ride
		from, minute, until int
		want                []int
	}{
		{exampleRides(), 0, 475, 500, []int{0, 1}}, {exampleRides(), 0, 480, 490, []int{0, 1}}, {exampleRides(), 0, 480, 489, []int{0}}, {exampleRides(), 0, 475, 509, []int{0, 1}}, {exampleRides(), 0, 475, 510, []int{0, 1, 2}}, {exampleRides(), 0, 481, 1439, []int{0}}, {exampleRides(), 2, 0, 1439, []int{0, 1, 2}}, {exampleRides(), 2, 960, 989, []int{1, 2}},
		{exampleRides(), 4, 7, 7, []int{4}}, {exampleRides(), 5, 0, 1439, []int{5}}, {nil, 3, 1439, 1439, []int{3}}, {promptRides(), 0, 0, 50, []int{0, 1, 2, 3, 4, 5}}, {promptRides(), 0, 0, 49, []int{0, 1, 2, 3, 4}}, {missedRides(), 0, 0, 1439, []int{0, 1}}, {promptRides(), 5, 50, 1439, []int{0, 5}}, {promptRides(), 5, 50, 1438, []int{5}},
		// Nobody can be anywhere before they are there.
		{exampleRides(), 0, 475, 474, nil}, {exampleRides(), 2, 1439, 0, nil}, {nil, 0, 1, 0, nil},
	}
	for _, c := range cases {
		if stops, ok := impl.ReachedBy(c.rides, c.from, c.minute, c.until); !ok || !slices.Equal(stops, c.want) {
			t.Errorf("ReachedBy(%v, %d, %d, %d) = %v, %v, not %v", c.rides, c.from, c.minute, c.until, stops, ok, c.want)
		}
	}
}

func TestReachedByOfManyTimetables(t *testing.T) {
	reached := [7]int{}
	eachRides(func(rides []impl.Ride) {
		trips := tripsOf(rides)
		minutes := minutesAround(rides)
		for i, until := range minutes {
			for from := range 6 {
				minute := minutes[(i*i+from)%len(minutes)]
				want := []int{}
				for to := range 6 {
					if arrival, _, _ := bestOf(trips, from, to, minute); arrival >= 0 && arrival <= until {
						want = append(want, to)
					}
				}
				reached[len(want)]++
				if stops, ok := impl.ReachedBy(rides, from, minute, until); !ok || !slices.Equal(stops, want) {
					t.Fatalf("ReachedBy(%v, %d, %d, %d) = %v, %v, not %v", rides, from, minute, until, stops, ok, want)
				}
			}
		}
	})
	for n, times := range reached {
		if times < 100 {
			t.Errorf("%d stops are reached only %d times", n, times)
		}
	}
}

func TestLastDescentsAndStrandedRidesValues(t *testing.T) {
	// With the Rides 0 and 1 one is at the stop 1 at the last minute, and a minute too late.
	last := []impl.Ride{ride(2, 1, 90, 100, 1), ride(2, 1, 91, 101, 1), ride(1, 0, 100, 110, 1), ride(0, 2, 90, 91, 1), ride(0, 2, 90, 92, 1), ride(3, 0, 1438, 1439, 0), ride(4, 3, 0, 1438, 0), ride(4, 3, 0, 1439, 0)}
	cases := []struct {
		rides    []impl.Ride
		descents []int
		stranded []int
	}{
		{exampleRides(), []int{1439, 980, 960, -1, -1, -1}, []int{4}}, {nil, []int{1439, -1, -1, -1, -1, -1}, nil}, {promptRides(), []int{1439, 10, 20, 30, 40, 50}, nil}, {missedRides(), []int{1439, -1, -1, -1, -1, 49}, []int{1, 2, 3, 4, 5}}, {last, []int{1439, 100, 90, 1438, 0, -1}, []int{1, 3, 4, 7}},
		{[]impl.Ride{ride(1, 0, 0, 1, 5)}, []int{1439, 0, -1, -1, -1, -1}, nil}, {[]impl.Ride{ride(0, 1, 0, 1, 5)}, []int{1439, -1, -1, -1, -1, -1}, []int{0}}, {[]impl.Ride{ride(0, 1, 0, 1, 5), ride(1, 0, 0, 1, 5)}, []int{1439, 0, -1, -1, -1, -1}, []int{0}}, {[]impl.Ride{ride(5, 0, 5, 1439, 0), ride(5, 0, 3, 4, 0)}, []int{1439, -1, -1, -1, -1, 5}, nil},
	}
	for _, c := range cases {
		if descents, ok := impl.LastDescents(c.rides); !ok || !slices.Equal(descents, c.descents) {
			t.Errorf("LastDescents(%v) = %v, %v, not %v", c.rides, descents, ok, c.descents)
		}
		if stranded, ok := impl.StrandedRides(c.rides); !ok || !slices.Equal(stranded, c.stranded) {
			t.Errorf("StrandedRides(%v) = %v, %v, not %v", c.rides, stranded, ok, c.stranded)
		}
	}
}

// comesDown tells whether one of all journeys leads from a stop to the valley that begins at a minute
// at the earliest.
func comesDown(trips []trip, stop, minute int) bool {
	arrival, _, _ := bestOf(trips, stop, 0, minute)
	return arrival >= 0
}

// TestWhoLeavesAtTheLastDescentComesDown tries every minute up to the last descent, and the one
// behind it, at which nobody comes down any more.
func TestWhoLeavesAtTheLastDescentComesDown(t *testing.T) {
	down, never := 0, 0
	eachRides(func(rides []impl.Ride) {
		trips := tripsOf(rides)
		descents, ok := impl.LastDescents(rides)
		if !ok || len(descents) != 6 || descents[0] != 1439 {
			t.Fatalf("LastDescents(%v) = %v, %v", rides, descents, ok)
		}
		for stop, last := range descents {
			for _, minute := range append(minutesAround(rides), max(last, 0), min(last+1, 1439)) {
				want := minute <= last
				arrival, ok := impl.EarliestArrival(rides, stop, 0, minute)
				if ok != want || want && (arrival < minute || arrival > 1439) {
					t.Fatalf("%v: the last descent of the stop %d is at %d, and EarliestArrival at %d is %d, %v", rides, stop, last, minute, arrival, ok)
				}
				if comesDown(trips, stop, minute) != want {
					t.Fatalf("%v: the last descent of the stop %d is not at %d", rides, stop, last)
				}
				if reached, ok := impl.ReachedBy(rides, stop, minute, 1439); !ok || slices.Contains(reached, 0) != want {
					t.Fatalf("%v: the last descent of the stop %d is at %d, and ReachedBy at %d is %v, %v", rides, stop, last, minute, reached, ok)
				}
			}
			if last < -1 || last > 1439 {
				t.Fatalf("LastDescents(%v) = %v", rides, descents)
			}
			if last >= 0 {
				down++
			} else {
				never++
			}
		}
	})
	if down < 1500 || never < 1500 {
		t.Errorf("only %d stops have a last descent, and %d have none", down, never)
	}
}

func TestStrandedRidesOfManyTimetables(t *testing.T) {
	lost, prompt := 0, 0
	eachRides(func(rides []impl.Ride) {
		trips := tripsOf(rides)
		descents, _ := impl.LastDescents(rides)
		want := []int{}
		for i, r := range rides {
			if r.To != 0 && !comesDown(trips, r.To, r.Arrive) {
				want = append(want, i)
			}
			if r.To != 0 && descents[r.To] == r.Arrive {
				prompt++
			}
		}
		lost += len(want)
		if stranded, ok := impl.StrandedRides(rides); !ok || !slices.Equal(stranded, want) {
			t.Fatalf("StrandedRides(%v) = %v, %v, not %v", rides, stranded, ok, want)
		}
	})
	if lost < 500 || prompt < 100 {
		t.Errorf("only %d Rides are stranded, and %d arrive just at the last descent", lost, prompt)
	}
}

func TestSeatsDown(t *testing.T) {
	cases := []struct {
		rides  []impl.Ride
		minute int
		want   int
	}{
		{exampleRides(), 900, 60}, {exampleRides(), 980, 60}, {exampleRides(), 981, 0}, {exampleRides(), 0, 60}, {exampleRides(), 1439, 0}, {nil, 0, 0}, {promptRides(), 50, 500}, {promptRides(), 51, 0}, {slices.Repeat([]impl.Ride{ride(3, 0, 7, 8, 500)}, 12), 7, 6000}, {[]impl.Ride{ride(1, 0, 7, 9, 3), ride(2, 0, 8, 9, 40), ride(5, 0, 9, 10, 500), ride(0, 5, 9, 10, 1), ride(4, 3, 9, 10, 2)}, 8, 540}, {[]impl.Ride{ride(1, 0, 0, 9, 0)}, 0, 0},
	}
	for _, c := range cases {
		if n, ok := impl.SeatsDown(c.rides, c.minute); !ok || n != c.want {
			t.Errorf("SeatsDown(%v, %d) = %d, %v, not %d", c.rides, c.minute, n, ok, c.want)
		}
	}
	eachRides(func(rides []impl.Ride) {
		for _, minute := range minutesAround(rides) {
			want := 0
			for _, r := range rides {
				if r.To == 0 && !(r.Depart < minute) {
					want += r.Seats
				}
			}
			if n, ok := impl.SeatsDown(rides, minute); !ok || n != want {
				t.Fatalf("SeatsDown(%v, %d) = %d, %v, not %d", rides, minute, n, ok, want)
			}
		}
	})
}

// journeysFail expects that all functions fail that have a stop from, a stop to and a minute.
func journeysFail(t *testing.T, rides []impl.Ride, from, to, minute int) {
	t.Helper()
	text := fmt.Sprintf("(%.200s, %d, %d, %d)", fmt.Sprint(rides), from, to, minute)
	if n, ok := impl.EarliestArrival(rides, from, to, minute); ok || n != 0 {
		t.Errorf("EarliestArrival%s = %d, %v", text, n, ok)
	}
	if n, ok := impl.LatestDeparture(rides, from, to, minute); ok || n != 0 {
		t.Errorf("LatestDeparture%s = %d, %v", text, n, ok)
	}
	if n, ok := impl.FewestRides(rides, from, to, minute); ok || n != 0 {
		t.Errorf("FewestRides%s = %d, %v", text, n, ok)
	}
}

func TestInvalidTimetablesFail(t *testing.T) {
	for _, rides := range invalidTimetables() {
		for from := range 3 {
			for to := range 3 {
				journeysFail(t, rides, from, to, 480)
				for _, journey := range [][]int{nil, {0}, {0, 1}} {
					if is, ok := impl.IsJourney(rides, journey, from, to); ok || is {
						t.Errorf("IsJourney(%.200s, %v, %d, %d) = %v, %v", fmt.Sprint(rides), journey, from, to, is, ok)
					}
				}
			}
			if stops, ok := impl.ReachedBy(rides, from, 480, 1439); ok || len(stops) != 0 {
				t.Errorf("ReachedBy(%.200s, %d) = %v, %v", fmt.Sprint(rides), from, stops, ok)
			}
		}
		if descents, ok := impl.LastDescents(rides); ok || len(descents) != 0 {
			t.Errorf("LastDescents(%.200s) = %v, %v", fmt.Sprint(rides), descents, ok)
		}
		if stranded, ok := impl.StrandedRides(rides); ok || len(stranded) != 0 {
			t.Errorf("StrandedRides(%.200s) = %v, %v", fmt.Sprint(rides), stranded, ok)
		}
		if n, ok := impl.SeatsDown(rides, 0); ok || n != 0 {
			t.Errorf("SeatsDown(%.200s) = %d, %v", fmt.Sprint(rides), n, ok)
		}
	}
}

func TestInvalidStopsFail(t *testing.T) {
	for _, rides := range [][]impl.Ride{nil, exampleRides(), promptRides()} {
		for _, wrong := range wrongStops() {
			for _, stop := range []int{0, 1, 5, wrong} {
				for _, minute := range []int{0, 480, 1439} {
					journeysFail(t, rides, wrong, stop, minute)
					journeysFail(t, rides, stop, wrong, minute)
				}
				for _, journey := range [][]int{nil, {0}, {0, 1}} {
					is, ok := impl.IsJourney(rides, journey, wrong, stop)
					back, backOk := impl.IsJourney(rides, journey, stop, wrong)
					if ok || is || backOk || back {
						t.Errorf("IsJourney(%v, %v) with the stops %d and %d = %v, %v and %v, %v", rides, journey, wrong, stop, is, ok, back, backOk)
					}
				}
			}
			if stops, ok := impl.ReachedBy(rides, wrong, 0, 1439); ok || len(stops) != 0 {
				t.Errorf("ReachedBy(%v, %d) = %v, %v", rides, wrong, stops, ok)
			}
		}
	}
}

func TestInvalidMinutesFail(t *testing.T) {
	for _, rides := range [][]impl.Ride{nil, exampleRides(), promptRides()} {
		for _, wrong := range append(wrongMinutes(), -1) {
			for from := range 6 {
				for to := range 6 {
					journeysFail(t, rides, from, to, wrong)
				}
				for _, minute := range []int{0, 480, 1439, wrong} {
					one, ok := impl.ReachedBy(rides, from, wrong, minute)
					two, twoOk := impl.ReachedBy(rides, from, minute, wrong)
					if ok || len(one) != 0 || twoOk || len(two) != 0 {
						t.Errorf("ReachedBy(%v, %d) with the minutes %d and %d = %v, %v and %v, %v", rides, from, wrong, minute, one, ok, two, twoOk)
					}
				}
			}
			if n, ok := impl.SeatsDown(rides, wrong); ok || n != 0 {
				t.Errorf("SeatsDown(%v, %d) = %d, %v", rides, wrong, n, ok)
			}
		}
	}
}

// rideResults calls every function of the chapter, checks that they fail where they must and that
// zero values stand beside false, and returns all results as a text.
func rideResults(t *testing.T, rides []impl.Ride, journey []int, from, to, minute, until int) string {
	t.Helper()
	valid := impl.IsTimetable(rides)
	is, isOk := impl.IsJourney(rides, journey, from, to)
	arrival, arrivalOk := impl.EarliestArrival(rides, from, to, minute)
	departure, departureOk := impl.LatestDeparture(rides, from, to, minute)
	descents, descentsOk := impl.LastDescents(rides)
	stranded, strandedOk := impl.StrandedRides(rides)
	number, numberOk := impl.FewestRides(rides, from, to, minute)
	reached, reachedOk := impl.ReachedBy(rides, from, minute, until)
	seats, seatsOk := impl.SeatsDown(rides, minute)
	got := []bool{valid, isOk, descentsOk, strandedOk, reachedOk, seatsOk}
	table := isTimetableOf(rides)
	want := []bool{table, table && isStopOf(from) && isStopOf(to), table, table, table && isStopOf(from) && isDayMinute(minute) && isDayMinute(until), table && isDayMinute(minute)}
	can := want[1] && isDayMinute(minute)
	if !slices.Equal(got, want) || (arrivalOk || departureOk || numberOk) && !can || arrivalOk != numberOk || can && from == to && !(arrivalOk && departureOk) {
		t.Fatalf("%.300s, %.100s, %d, %d, %d, %d: %v, %v, %v, %v, not %v", fmt.Sprint(rides), fmt.Sprint(journey), from, to, minute, until, got, arrivalOk, departureOk, numberOk, want)
	}
	zero := (!is || isOk) && (arrival == 0 || arrivalOk) && (departure == 0 || departureOk) && (len(descents) == 0 || descentsOk)
	zero = zero && (len(stranded) == 0 || strandedOk) && (number == 0 || numberOk) && (len(reached) == 0 || reachedOk) && (seats == 0 || seatsOk)
	if !zero {
		t.Fatalf("%.300s, %d, %d, %d, %d: a result beside false is not zero", fmt.Sprint(rides), from, to, minute, until)
	}
	return fmt.Sprint(got, is, arrival, arrivalOk, departure, departureOk, descents, stranded, number, numberOk, reached, seats)
}

// TestTimetablesReturnForAllArguments gives valid and invalid arguments to every function of the
// chapter, as parts of longer lists, and expects that nothing in these changes, that what stands
// behind them does not count, and that a second call returns the same.
func TestTimetablesReturnForAllArguments(t *testing.T) {
	check := func(rides []impl.Ride, journey []int, from, to, minute, until int) {
		memory := append(slices.Clone(rides), ride(from, to, 5, 6, 500), ride(1, 0, 1438, 1439, 9), ride(0, 0, 0, 0, 0), ride(math.MinInt, 7, -1, 2, 3))
		more := append(slices.Clone(journey), 0, 1, -1, math.MaxInt)
		before, moreBefore := slices.Clone(memory), slices.Clone(more)
		first := rideResults(t, slices.Clone(rides), slices.Clone(journey), from, to, minute, until)
		if second := rideResults(t, memory[:len(rides)], more[:len(journey)], from, to, minute, until); second != first {
			t.Fatalf("%.300s and then %.300s", first, second)
		}
		if !slices.Equal(memory, before) || !slices.Equal(more, moreBefore) {
			t.Fatalf("an argument %.300s, %.100s is changed", fmt.Sprint(rides), fmt.Sprint(journey))
		}
	}
	seed := 0
	eachRides(func(rides []impl.Ride) {
		seed++
		next := numbers(seed)
		for from := range 6 {
			journeys := journeysOf(rides, from)
			for _, minute := range []int{0, next(40), 1400 + next(40), 1439} {
				check(rides, journeys[next(len(journeys))], from, next(6), minute, next(1440))
			}
		}
	})
	wrong := append(wrongMinutes(), 0, 1, 6, 480, 1439)
	for i, n := range wrong {
		for _, m := range wrong {
			for _, rides := range [][]impl.Ride{nil, exampleRides(), promptRides(), {ride(n, m, 5, 6, 7)}, {ride(0, 1, n, m, 7)}, {ride(1, 0, 5, m, n)}, slices.Repeat(exampleRides(), 3)} {
				check(rides, []int{n, m}, n, m, 480, 990)
				check(rides, []int{0, n}, 0, 2, n, m)
				check(rides, []int{0, 1}, i%6, n, m, m)
			}
		}
	}
	for _, rides := range invalidTimetables() {
		check(rides, []int{0}, 0, 1, 0, 1439)
		check(rides, nil, 2, 2, 700, 1)
	}
	for _, length := range []int{11, 12, 13, 1000, 100000} {
		check(slices.Repeat([]impl.Ride{ride(0, 1, 5, 6, 7)}, length), make([]int, length), 0, 1, 5, 6)
	}
}

// TestTimetablesReturnNewMemory changes the results, and behind their length, and expects that neither
// the argument nor a later result changes with them.
func TestTimetablesReturnNewMemory(t *testing.T) {
	reached := func(rides []impl.Ride) ([]int, bool) { return impl.ReachedBy(rides, 0, 0, 1439) }
	eachRides(func(rides []impl.Ride) {
		before := slices.Clone(rides)
		for _, f := range []func([]impl.Ride) ([]int, bool){impl.LastDescents, impl.StrandedRides, reached} {
			one, ok := f(rides)
			two, _ := f(rides)
			kept := slices.Clone(two)
			if !ok || !slices.Equal(one, two) {
				t.Fatalf("%v: %v, %v and then %v", rides, one, ok, two)
			}
			clear(one[:cap(one)])
			if three, _ := f(rides); !slices.Equal(two, kept) || !slices.Equal(three, kept) || !slices.Equal(rides, before) {
				t.Fatalf("a result of %v shares memory", rides)
			}
		}
	})
}
