package tests

import (
	"fmt"
	"math"
	"slices"
	"testing"

	"loop.example/g00935/impl"
)

// ticketKinds are all Kinds.
var ticketKinds = []int{impl.TicketSingle, impl.TicketReturn, impl.TicketDay, impl.TicketTen}

func ticket(number, kind, day, ups, downs int) impl.Ticket {
	return impl.Ticket{Number: number, Kind: kind, Day: day, Ups: ups, Downs: downs}
}

func prices(single, back, day, ten int) impl.Prices {
	return impl.Prices{Single: single, Return: back, Day: day, Ten: ten}
}

// examplePrices are such that each Kind is the cheapest one for some rides.
func examplePrices() impl.Prices {
	return prices(900, 1500, 3000, 7000)
}

// exampleTickets are unused, used and used up ones of each Kind.
func exampleTickets() []impl.Ticket {
	return []impl.Ticket{
		ticket(1, impl.TicketSingle, 10, 0, 0), ticket(2, impl.TicketTen, 10, 4, 5), ticket(3, impl.TicketSingle, 10, 0, 1), ticket(5, impl.TicketDay, 10, 3, 2), ticket(6, impl.TicketReturn, 10, 1, 0),
		ticket(40, impl.TicketReturn, 11, 0, 1), ticket(41, impl.TicketTen, 11, 10, 0), ticket(700, impl.TicketDay, 11, 50, 49), ticket(701, impl.TicketReturn, 9, 1, 1), ticket(9998, impl.TicketTen, 0, 0, 0),
	}
}

// mostTickets has as many Tickets as a list can have, and meets every limit of their numbers.
func mostTickets() []impl.Ticket {
	list := []impl.Ticket{}
	for i := range impl.MaxTickets {
		t := ticket(1+i*9998/(impl.MaxTickets-1), ticketKinds[i%4], 999, 0, 0)
		if i%3 > 0 {
			t.Day = 0
		}
		if allowed(t.Kind, 50, 50) {
			t.Ups, t.Downs = 50, 50
		} else if allowed(t.Kind, 10, 0) {
			t.Ups = 10
		}
		list = append(list, t)
	}
	return list
}

// ticketsOf returns a valid list whose Tickets were often sold on the same days, and are often used
// up or nearly so.
func ticketsOf(seed int) []impl.Ticket {
	next := numbers(seed)
	from := []int{0, 10, next(1000), 995}[next(4)]
	list := []impl.Ticket{}
	number := []int{0, next(100), 9999 - 8*impl.MaxTickets}[next(3)]
	for range next(impl.MaxTickets + 1) {
		number += 1 + next(8)
		t := ticket(number, next(4), min(from+[]int{0, next(5), next(400)}[next(3)], 999), 0, 0)
		for range next(2) * next(110) {
			if up := next(2); allowed(t.Kind, t.Ups+up, t.Downs+1-up) {
				t.Ups, t.Downs = t.Ups+up, t.Downs+1-up
			}
		}
		list = append(list, t)
	}
	return list
}

// eachTickets calls f with a valid list, many times.
func eachTickets(f func(list []impl.Ticket)) {
	f(nil)
	f([]impl.Ticket{})
	f(exampleTickets())
	f(mostTickets())
	for seed := range 2000 {
		f(ticketsOf(seed))
	}
}

// allowed reports whether a Ticket of a Kind may be used so often.
func allowed(kind, ups, downs int) bool {
	if ups < 0 || downs < 0 {
		return false
	}
	switch kind {
	case impl.TicketSingle:
		return ups+downs <= 1
	case impl.TicketReturn:
		return ups <= 1 && downs <= 1
	case impl.TicketDay:
		return ups <= 50 && downs <= 50
	default:
		return ups+downs <= 10
	}
}

// onTime reports whether a Ticket of a Kind that was sold on a day can be used some days later.
func onTime(kind, later int) bool {
	switch kind {
	case impl.TicketSingle, impl.TicketReturn:
		return later == 0 || later == 1
	case impl.TicketDay:
		return later == 0
	default:
		return later >= 0 && later < 365
	}
}

// mayRide reports whether a Ticket can be used on a day.
func mayRide(t impl.Ticket, day int, up bool) bool {
	if up {
		return onTime(t.Kind, day-t.Day) && allowed(t.Kind, t.Ups+1, t.Downs)
	}
	return onTime(t.Kind, day-t.Day) && allowed(t.Kind, t.Ups, t.Downs+1)
}

// ridesBy uses a Ticket up or down on a day until that is not possible, and returns how often it was.
func ridesBy(t impl.Ticket, day int, up bool) int {
	rides := 0
	for mayRide(t, day, up) {
		rides++
		if up {
			t.Ups++
		} else {
			t.Downs++
		}
	}
	return rides
}

// daysAround are days before, on and behind those on which a Ticket can be used.
func daysAround(t impl.Ticket) []int {
	days := []int{}
	for _, later := range []int{-999, -365, -2, -1, 0, 1, 2, 3, 10, 49, 50, 363, 364, 365, 366, 999} {
		if day := t.Day + later; 0 <= day && day <= 999 {
			days = append(days, day)
		}
	}
	return days
}

// invalidTickets returns Tickets that break one rule each.
func invalidTickets() []impl.Ticket {
	list := []impl.Ticket{{}, ticket(1, 0, 0, 1, 1), ticket(1, 0, 0, 2, 0), ticket(1, 0, 0, 0, 2), ticket(1, 1, 0, 2, 0), ticket(1, 1, 0, 1, 2), ticket(1, 2, 0, 51, 50), ticket(1, 2, 0, 50, 51), ticket(1, 3, 0, 5, 6), ticket(1, 3, 0, 11, 0), ticket(1, 3, 0, 0, 11), ticket(1, 3, 0, 12, -2), ticket(1, 3, 0, 10, 10)}
	for _, kind := range ticketKinds {
		for i, wrong := range [][]int{{0, -2, 10000, 10001}, {-2, 4, 5}, {-2, 1000, 1001}, {-2, 51, 52}, {-2, 51, 52}} {
			for _, n := range append(wrong, extremes()...) {
				t := ticket(5, kind, 7, 0, 0)
				*[]*int{&t.Number, &t.Kind, &t.Day, &t.Ups, &t.Downs}[i] = n
				list = append(list, t)
			}
		}
		// Sums of these leave the range of int, or are small.
		for _, n := range []int{math.MaxInt, math.MinInt, math.MaxInt - 1, 1 << 62} {
			list = append(list, ticket(5, kind, 7, n, n), ticket(5, kind, 7, n, -n), ticket(5, kind, 7, 1-n, n), ticket(5, kind, 7, n, math.MaxInt))
		}
	}
	return list
}

// invalidTicketLists returns lists that break one rule each.
func invalidTicketLists() [][]impl.Ticket {
	thirteen := []impl.Ticket{}
	for i := range impl.MaxTickets + 1 {
		thirteen = append(thirteen, ticket(i+1, i%4, 7, 0, 0))
	}
	one, two, three := ticket(1, 0, 7, 0, 0), ticket(2, 1, 7, 1, 0), ticket(3, 2, 7, 5, 4)
	lists := [][]impl.Ticket{
		thirteen, make([]impl.Ticket, 100000), {one, one}, {two, one}, {one, three, two}, {two, one, three}, {one, two, two}, {one, ticket(1, 3, 9, 1, 1)},
	}
	for _, t := range invalidTickets() {
		lists = append(lists, []impl.Ticket{t}, []impl.Ticket{one, t}, []impl.Ticket{t, ticket(9999, 3, 7, 0, 0)}, []impl.Ticket{one, two, t, ticket(9, 3, 7, 1, 1)})
	}
	return lists
}

// wrongTicketDays are numbers that are no day of a Ticket.
func wrongTicketDays() []int {
	return append(extremes(), -2, 1000, 1001, 9999)
}

// invalidPrices returns Prices that break one rule each.
func invalidPrices() []impl.Prices {
	list := []impl.Prices{}
	for i := range 4 {
		for _, n := range append(extremes(), -2, 50001, 50002) {
			p := examplePrices()
			*[]*int{&p.Single, &p.Return, &p.Day, &p.Ten}[i] = n
			list = append(list, p)
		}
	}
	return list
}

func TestTicketConstants(t *testing.T) {
	if impl.MaxTickets != 12 || !slices.Equal(ticketKinds, []int{0, 1, 2, 3}) {
		t.Errorf("MaxTickets is %d, and the Kinds are %v", impl.MaxTickets, ticketKinds)
	}
}

func TestIsTicketAcceptsUpToTheLimits(t *testing.T) {
	for _, kind := range ticketKinds {
		for i, limits := range [][]int{{1, 2, 9998, 9999}, {0, 1, 998, 999}} {
			for _, n := range limits {
				x := ticket(5, kind, 7, 0, 0)
				*[]*int{&x.Number, &x.Day}[i] = n
				if !impl.IsTicket(x) || !impl.AreTickets([]impl.Ticket{x}) {
					t.Errorf("%+v is not valid", x)
				}
			}
		}
		for ups := -2; ups <= 103; ups++ {
			for downs := -2; downs <= 103; downs++ {
				x := ticket(5, kind, 7, ups, downs)
				if valid := impl.IsTicket(x); valid != allowed(kind, ups, downs) {
					t.Errorf("%+v is valid: %v", x, valid)
				}
			}
		}
	}
	for _, x := range invalidTickets() {
		if impl.IsTicket(x) || impl.AreTickets([]impl.Ticket{x}) {
			t.Errorf("%+v is valid", x)
		}
	}
}

func TestAreTickets(t *testing.T) {
	eachTickets(func(list []impl.Ticket) {
		if !impl.AreTickets(list) {
			t.Fatalf("%v is not valid", list)
		}
		for i, x := range list {
			if !impl.IsTicket(x) || !impl.AreTickets(list[i:]) || !impl.AreTickets(list[:i]) {
				t.Fatalf("a part of %v is not valid", list)
			}
		}
		if len(list) > 1 && (impl.AreTickets([]impl.Ticket{list[1], list[0]}) || impl.AreTickets([]impl.Ticket{list[0], list[0]})) {
			t.Fatalf("%v is valid in another order", list[:2])
		}
	})
	for _, list := range invalidTicketLists() {
		if impl.AreTickets(list) {
			t.Errorf("%.300s is valid", fmt.Sprint(list))
		}
	}
}

func TestCanRideValues(t *testing.T) {
	cases := []struct {
		ticket   impl.Ticket
		day      int
		up, down bool
	}{
		// A single one: once, up or down, on its Day and the next one.
		{ticket(1, impl.TicketSingle, 10, 0, 0), 9, false, false}, {ticket(1, impl.TicketSingle, 10, 0, 0), 10, true, true}, {ticket(1, impl.TicketSingle, 10, 0, 0), 11, true, true}, {ticket(1, impl.TicketSingle, 10, 0, 0), 12, false, false},
		{ticket(1, impl.TicketSingle, 10, 1, 0), 10, false, false}, {ticket(1, impl.TicketSingle, 10, 0, 1), 10, false, false},
		// A return one: once up and once down, in any order.
		{ticket(1, impl.TicketReturn, 10, 0, 0), 9, false, false}, {ticket(1, impl.TicketReturn, 10, 0, 0), 10, true, true}, {ticket(1, impl.TicketReturn, 10, 0, 0), 11, true, true}, {ticket(1, impl.TicketReturn, 10, 0, 0), 12, false, false},
		{ticket(1, impl.TicketReturn, 10, 1, 0), 11, false, true}, {ticket(1, impl.TicketReturn, 10, 0, 1), 11, true, false}, {ticket(1, impl.TicketReturn, 10, 1, 1), 10, false, false},
		// A day one: on its Day alone.
		{ticket(1, impl.TicketDay, 10, 0, 0), 9, false, false}, {ticket(1, impl.TicketDay, 10, 0, 0), 10, true, true}, {ticket(1, impl.TicketDay, 10, 0, 0), 11, false, false},
		{ticket(1, impl.TicketDay, 10, 50, 0), 10, false, true}, {ticket(1, impl.TicketDay, 10, 0, 50), 10, true, false}, {ticket(1, impl.TicketDay, 10, 49, 50), 10, true, false}, {ticket(1, impl.TicketDay, 10, 50, 50), 10, false, false},
		// A ten one: the 365 days from its Day on.
		{ticket(1, impl.TicketTen, 10, 0, 0), 9, false, false}, {ticket(1, impl.TicketTen, 10, 0, 0), 10, true, true}, {ticket(1, impl.TicketTen, 10, 0, 0), 374, true, true}, {ticket(1, impl.TicketTen, 10, 0, 0), 375, false, false},
		{ticket(1, impl.TicketTen, 10, 4, 5), 11, true, true}, {ticket(1, impl.TicketTen, 10, 5, 5), 11, false, false}, {ticket(1, impl.TicketTen, 10, 10, 0), 11, false, false}, {ticket(1, impl.TicketTen, 10, 0, 9), 11, true, true},
		// The last day.
		{ticket(1, impl.TicketSingle, 999, 0, 0), 999, true, true}, {ticket(1, impl.TicketReturn, 998, 0, 0), 999, true, true}, {ticket(1, impl.TicketDay, 998, 0, 0), 999, false, false}, {ticket(1, impl.TicketTen, 635, 0, 0), 999, true, true}, {ticket(1, impl.TicketTen, 634, 0, 0), 999, false, false},
	}
	for _, c := range cases {
		up, ok := impl.CanRide(c.ticket, c.day, true)
		down, downOk := impl.CanRide(c.ticket, c.day, false)
		if !ok || !downOk || up != c.up || down != c.down {
			t.Errorf("CanRide(%+v, %d) = %v, %v up and %v, %v down", c.ticket, c.day, up, ok, down, downOk)
		}
	}
}

// TestCanRideAndRidesLeftOfEveryUse tries each Kind with every number of uses around all its days.
func TestCanRideAndRidesLeftOfEveryUse(t *testing.T) {
	for _, kind := range ticketKinds {
		for ups := range 51 {
			for downs := 0; allowed(kind, ups, downs); downs++ {
				for _, sold := range []int{0, 1, 10, 500, 998, 999} {
					x := ticket(5, kind, sold, ups, downs)
					for _, day := range daysAround(x) {
						up, ok := impl.CanRide(x, day, true)
						down, downOk := impl.CanRide(x, day, false)
						if !ok || !downOk || up != mayRide(x, day, true) || down != mayRide(x, day, false) {
							t.Fatalf("CanRide(%+v, %d) = %v, %v up and %v, %v down", x, day, up, ok, down, downOk)
						}
						leftUp, leftDown, ok := impl.RidesLeft(x, day)
						if !ok || leftUp != ridesBy(x, day, true) || leftDown != ridesBy(x, day, false) {
							t.Fatalf("RidesLeft(%+v, %d) = %d, %d, %v", x, day, leftUp, leftDown, ok)
						}
					}
				}
			}
		}
	}
}

func TestCanRideAndRidesLeftFail(t *testing.T) {
	check := func(x impl.Ticket, day int) {
		ups, downs, ok := impl.RidesLeft(x, day)
		up, upOk := impl.CanRide(x, day, true)
		down, downOk := impl.CanRide(x, day, false)
		if ok || upOk || downOk || ups != 0 || downs != 0 || up || down {
			t.Errorf("%+v on %d: %d, %d, %v and %v, %v up and %v, %v down", x, day, ups, downs, ok, up, upOk, down, downOk)
		}
	}
	for _, x := range exampleTickets() {
		for _, day := range wrongTicketDays() {
			check(x, day)
		}
	}
	for _, kind := range ticketKinds {
		// The next day would be on time, but there is none.
		check(ticket(5, kind, 999, 0, 0), 1000)
	}
	for _, x := range invalidTickets() {
		for _, day := range []int{0, 7, x.Day} {
			check(x, day)
		}
	}
}

func TestRidesLeftValues(t *testing.T) {
	cases := []struct {
		ticket          impl.Ticket
		day, ups, downs int
	}{
		{ticket(1, impl.TicketSingle, 10, 0, 0), 10, 1, 1}, {ticket(1, impl.TicketSingle, 10, 0, 0), 12, 0, 0}, {ticket(1, impl.TicketSingle, 10, 1, 0), 10, 0, 0}, {ticket(1, impl.TicketSingle, 10, 0, 1), 10, 0, 0},
		{ticket(1, impl.TicketReturn, 10, 0, 0), 11, 1, 1}, {ticket(1, impl.TicketReturn, 10, 1, 0), 11, 0, 1}, {ticket(1, impl.TicketReturn, 10, 0, 1), 11, 1, 0}, {ticket(1, impl.TicketReturn, 10, 0, 0), 9, 0, 0},
		{ticket(1, impl.TicketDay, 10, 0, 0), 10, 50, 50}, {ticket(1, impl.TicketDay, 10, 3, 2), 10, 47, 48}, {ticket(1, impl.TicketDay, 10, 3, 2), 11, 0, 0}, {ticket(1, impl.TicketDay, 10, 50, 1), 10, 0, 49},
		{ticket(1, impl.TicketTen, 10, 0, 0), 374, 10, 10}, {ticket(1, impl.TicketTen, 10, 4, 5), 20, 1, 1}, {ticket(1, impl.TicketTen, 10, 7, 0), 20, 3, 3}, {ticket(1, impl.TicketTen, 10, 0, 7), 20, 3, 3}, {ticket(1, impl.TicketTen, 10, 0, 10), 20, 0, 0}, {ticket(1, impl.TicketTen, 10, 4, 5), 375, 0, 0},
	}
	for _, c := range cases {
		if ups, downs, ok := impl.RidesLeft(c.ticket, c.day); !ok || ups != c.ups || downs != c.downs {
			t.Errorf("RidesLeft(%+v, %d) = %d, %d, %v", c.ticket, c.day, ups, downs, ok)
		}
	}
}

func TestUseTicketValues(t *testing.T) {
	list := exampleTickets()
	cases := []struct {
		number, day int
		up          bool
		want        impl.Ticket
	}{
		{1, 10, true, ticket(1, impl.TicketSingle, 10, 1, 0)}, {1, 11, false, ticket(1, impl.TicketSingle, 10, 0, 1)}, {2, 374, false, ticket(2, impl.TicketTen, 10, 4, 6)}, {2, 10, true, ticket(2, impl.TicketTen, 10, 5, 5)},
		{5, 10, true, ticket(5, impl.TicketDay, 10, 4, 2)}, {5, 10, false, ticket(5, impl.TicketDay, 10, 3, 3)}, {6, 11, false, ticket(6, impl.TicketReturn, 10, 1, 1)}, {40, 12, true, ticket(40, impl.TicketReturn, 11, 1, 1)},
		{700, 11, false, ticket(700, impl.TicketDay, 11, 50, 50)}, {9998, 0, true, ticket(9998, impl.TicketTen, 0, 1, 0)}, {9998, 364, false, ticket(9998, impl.TicketTen, 0, 0, 1)},
		// Used up, in this direction or in both.
		{3, 10, true, impl.Ticket{}}, {3, 10, false, impl.Ticket{}}, {6, 10, true, impl.Ticket{}}, {40, 11, false, impl.Ticket{}}, {41, 11, true, impl.Ticket{}}, {41, 11, false, impl.Ticket{}}, {700, 11, true, impl.Ticket{}}, {701, 9, true, impl.Ticket{}}, {701, 9, false, impl.Ticket{}},
		// Before or behind its days.
		{1, 9, true, impl.Ticket{}}, {1, 12, false, impl.Ticket{}}, {2, 9, false, impl.Ticket{}}, {2, 375, false, impl.Ticket{}}, {5, 9, true, impl.Ticket{}}, {5, 11, true, impl.Ticket{}}, {6, 12, false, impl.Ticket{}}, {9998, 365, true, impl.Ticket{}},
		// No day.
		{9998, -1, true, impl.Ticket{}}, {1, 1000, true, impl.Ticket{}}, {1, math.MinInt, false, impl.Ticket{}}, {1, math.MaxInt, false, impl.Ticket{}},
		// No such Number.
		{0, 10, true, impl.Ticket{}}, {4, 10, true, impl.Ticket{}}, {7, 10, false, impl.Ticket{}}, {9999, 10, true, impl.Ticket{}}, {-1, 10, true, impl.Ticket{}}, {10000, 10, true, impl.Ticket{}},
	}
	for _, c := range cases {
		used, ok := impl.UseTicket(list, c.number, c.day, c.up)
		if c.want == (impl.Ticket{}) {
			if ok || len(used) != 0 {
				t.Errorf("UseTicket(%d, %d, %v) = %v, %v", c.number, c.day, c.up, used, ok)
			}
			continue
		}
		want := exampleTickets()
		want[slices.IndexFunc(want, func(x impl.Ticket) bool { return x.Number == c.number })] = c.want
		if !ok || !slices.Equal(used, want) {
			t.Errorf("UseTicket(%d, %d, %v) = %v, %v, not %v", c.number, c.day, c.up, used, ok, want)
		}
	}
}

// ridesBecome expects that a Ticket of a list that is used on a day has one ride less in this
// direction, and none less in the other one if its Kind has rides of its own for it, and that no
// other Ticket is changed; it returns whether it could be used.
func ridesBecome(t *testing.T, list []impl.Ticket, i, day int, up bool) bool {
	t.Helper()
	x := list[i]
	ups, downs, leftOk := impl.RidesLeft(x, day)
	can, canOk := impl.CanRide(x, day, up)
	used, ok := impl.UseTicket(list, x.Number, day, up)
	if !leftOk || !canOk || can != mayRide(x, day, up) || ok != can || !ok && len(used) != 0 {
		t.Fatalf("%+v on %d, %v: %v, %v, but UseTicket returns %v, %v", x, day, up, can, canOk, used, ok)
	}
	if !ok {
		return false
	}
	wantUps, wantDowns := ups, downs
	own := x.Kind == impl.TicketReturn || x.Kind == impl.TicketDay
	want := slices.Clone(list)
	if up {
		want[i].Ups++
	} else {
		want[i].Downs++
	}
	if up || !own {
		wantUps--
	}
	if !up || !own {
		wantDowns--
	}
	ups, downs, leftOk = impl.RidesLeft(used[i], day)
	if !leftOk || ups != wantUps || downs != wantDowns || !slices.Equal(used, want) || !impl.AreTickets(used) {
		t.Fatalf("UseTicket(%v, %d, %d, %v) = %v with %d rides up and %d down, not %d and %d", list, x.Number, day, up, used, ups, downs, wantUps, wantDowns)
	}
	return true
}

func TestATicketThatIsUsedHasARideLess(t *testing.T) {
	uses, fails := [4]int{}, [4]int{}
	eachTickets(func(list []impl.Ticket) {
		for i, x := range list {
			for _, day := range daysAround(x) {
				for _, up := range []bool{true, false} {
					if ridesBecome(t, list, i, day, up) {
						uses[x.Kind]++
					} else {
						fails[x.Kind]++
					}
				}
			}
		}
	})
	if slices.Min(uses[:]) < 2000 || slices.Min(fails[:]) < 2000 {
		t.Errorf("only %v can be used, and %v cannot", uses, fails)
	}
}

// TestATicketIsUsedUp uses each Kind up and down in turn until it cannot be used any more.
func TestATicketIsUsedUp(t *testing.T) {
	for kind, want := range []int{1, 2, 100, 10} {
		list, number, ok := impl.SellTicket([]impl.Ticket{ticket(3, impl.TicketDay, 4, 1, 1)}, kind, 4)
		if !ok || number != 4 {
			t.Fatalf("SellTicket = %v, %d, %v", list, number, ok)
		}
		rides := 0
		for rides <= 200 {
			next, ok := impl.UseTicket(list, number, 4, rides%2 == 0)
			if !ok {
				break
			}
			list = next
			rides++
		}
		if rides != want || list[0] != ticket(3, impl.TicketDay, 4, 1, 1) {
			t.Errorf("a Ticket of the Kind %d is used %d times, not %d: %v", kind, rides, want, list)
		}
		if ups, downs, ok := impl.RidesLeft(list[1], 4); !ok || ups != 0 || downs != 0 {
			t.Errorf("%+v has %d, %d rides left, %v", list[1], ups, downs, ok)
		}
	}
}

func TestSellTicketValues(t *testing.T) {
	for _, list := range [][]impl.Ticket{nil, {}, {ticket(1, 0, 7, 1, 0)}, {ticket(7, 2, 999, 1, 0)}, exampleTickets(), {ticket(2, 0, 7, 1, 0), ticket(9998, 3, 0, 0, 0)}} {
		want := 1
		if len(list) > 0 {
			want = list[len(list)-1].Number + 1
		}
		for _, kind := range ticketKinds {
			for _, day := range []int{0, 1, 6, 998, 999} {
				sold, number, ok := impl.SellTicket(list, kind, day)
				if !ok || number != want || !slices.Equal(sold, append(slices.Clone(list), ticket(want, kind, day, 0, 0))) {
					t.Errorf("SellTicket(%v, %d, %d) = %v, %d, %v", list, kind, day, sold, number, ok)
				}
			}
		}
	}
}

func TestSellTicketFails(t *testing.T) {
	check := func(list []impl.Ticket, kind, day int) {
		if sold, number, ok := impl.SellTicket(list, kind, day); ok || number != 0 || len(sold) != 0 {
			t.Errorf("SellTicket(%.300s, %d, %d) = %v, %d, %v", fmt.Sprint(list), kind, day, sold, number, ok)
		}
	}
	for _, list := range [][]impl.Ticket{nil, exampleTickets()} {
		for _, kind := range append(extremes(), -2, 4, 5) {
			check(list, kind, 7)
		}
		for _, day := range wrongTicketDays() {
			check(list, impl.TicketTen, day)
		}
	}
	check([]impl.Ticket{ticket(9999, 0, 7, 0, 0)}, impl.TicketSingle, 7)
	check(mostTickets(), impl.TicketDay, 7)
	for _, list := range invalidTicketLists() {
		check(list, impl.TicketDay, 7)
	}
}

// TestSellTicketUntilTheListIsFull sells one Ticket behind the other, from no Ticket on.
func TestSellTicketUntilTheListIsFull(t *testing.T) {
	list := []impl.Ticket{}
	for i := range impl.MaxTickets {
		sold, number, ok := impl.SellTicket(list, i%4, 50-i)
		if !ok || number != i+1 || len(sold) != i+1 || sold[i] != ticket(i+1, i%4, 50-i, 0, 0) || !slices.Equal(sold[:i], list) {
			t.Fatalf("SellTicket(%v) = %v, %d, %v", list, sold, number, ok)
		}
		list = sold
	}
	if sold, number, ok := impl.SellTicket(list, 0, 50); ok || number != 0 || len(sold) != 0 {
		t.Errorf("SellTicket of a full list = %v, %d, %v", sold, number, ok)
	}
}

func TestStillUp(t *testing.T) {
	cases := []struct {
		list []impl.Ticket
		want int
	}{
		{nil, 0}, {[]impl.Ticket{}, 0}, {exampleTickets(), 13},
		{[]impl.Ticket{ticket(1, 0, 7, 1, 0)}, 1}, {[]impl.Ticket{ticket(1, 0, 7, 0, 1)}, 0}, {[]impl.Ticket{ticket(1, 0, 7, 0, 1), ticket(2, 0, 7, 1, 0)}, 1}, {[]impl.Ticket{ticket(1, 2, 7, 0, 50), ticket(2, 3, 7, 6, 4)}, 2},
		{[]impl.Ticket{ticket(1, 2, 7, 50, 0), ticket(2, 2, 7, 50, 50), ticket(3, 2, 9, 50, 1)}, 99},
	}
	for _, c := range cases {
		if n, ok := impl.StillUp(c.list); !ok || n != c.want {
			t.Errorf("StillUp(%v) = %d, %v, not %d", c.list, n, ok, c.want)
		}
	}
	fewer, more := 0, 0
	eachTickets(func(list []impl.Ticket) {
		want := 0
		for _, x := range list {
			if x.Ups > x.Downs {
				want += x.Ups - x.Downs
				more++
			} else if x.Ups < x.Downs {
				fewer++
			}
		}
		if n, ok := impl.StillUp(list); !ok || n != want {
			t.Fatalf("StillUp(%v) = %d, %v, not %d", list, n, ok, want)
		}
	})
	if fewer < 500 || more < 500 {
		t.Errorf("only %d came down more often, and %d went up more often", fewer, more)
	}
	for _, list := range invalidTicketLists() {
		if n, ok := impl.StillUp(list); ok || n != 0 {
			t.Errorf("StillUp(%.300s) = %d, %v", fmt.Sprint(list), n, ok)
		}
	}
}

func TestSalesOnValues(t *testing.T) {
	cases := []struct {
		prices    impl.Prices
		list      []impl.Ticket
		day, want int
	}{
		// What was used, and in which direction, does not count.
		{examplePrices(), exampleTickets(), 10, 900 + 7000 + 900 + 3000 + 1500}, {examplePrices(), exampleTickets(), 11, 1500 + 7000 + 3000}, {examplePrices(), exampleTickets(), 9, 1500}, {examplePrices(), exampleTickets(), 0, 7000}, {examplePrices(), exampleTickets(), 12, 0}, {examplePrices(), exampleTickets(), 999, 0},
		{examplePrices(), nil, 0, 0}, {prices(0, 0, 0, 0), exampleTickets(), 10, 0}, {prices(50000, 50000, 50000, 50000), exampleTickets(), 10, 250000}, {prices(1, 10, 100, 1000), exampleTickets(), 10, 1112}, {prices(1, 10, 100, 1000), exampleTickets(), 11, 1110},
	}
	for _, c := range cases {
		if n, ok := impl.SalesOn(c.prices, c.list, c.day); !ok || n != c.want {
			t.Errorf("SalesOn(%+v, %v, %d) = %d, %v, not %d", c.prices, c.list, c.day, n, ok, c.want)
		}
	}
}

func TestSalesOnEveryDay(t *testing.T) {
	eachTickets(func(list []impl.Ticket) {
		p, days := prices(len(list), 20, 3000, 50000), []int{0, 10, 500, 999}
		for _, x := range list {
			days = append(days, daysAround(x)...)
		}
		for _, day := range days {
			counts := [4]int{}
			for _, x := range list {
				if x.Day == day {
					counts[x.Kind]++
				}
			}
			want := counts[0]*len(list) + counts[1]*20 + counts[2]*3000 + counts[3]*50000
			if n, ok := impl.SalesOn(p, list, day); !ok || n != want {
				t.Fatalf("SalesOn(%+v, %v, %d) = %d, %v, not %d", p, list, day, n, ok, want)
			}
		}
	})
}

func TestSalesOnFails(t *testing.T) {
	check := func(p impl.Prices, list []impl.Ticket, day int) {
		if n, ok := impl.SalesOn(p, list, day); ok || n != 0 {
			t.Errorf("SalesOn(%+v, %.300s, %d) = %d, %v", p, fmt.Sprint(list), day, n, ok)
		}
	}
	// Also where no Ticket of this Kind was sold, or none at all.
	for _, p := range invalidPrices() {
		check(p, exampleTickets(), 10)
		check(p, exampleTickets(), 500)
		check(p, nil, 10)
	}
	for _, day := range wrongTicketDays() {
		check(examplePrices(), exampleTickets(), day)
		check(examplePrices(), nil, day)
	}
	for _, list := range invalidTicketLists() {
		check(examplePrices(), list, 7)
	}
}

func TestCheapestForValues(t *testing.T) {
	cases := []struct {
		prices     impl.Prices
		ups, downs int
		counts     []int
		sum        int
	}{
		{examplePrices(), 0, 0, []int{0, 0, 0, 0}, 0}, {examplePrices(), 1, 0, []int{1, 0, 0, 0}, 900}, {examplePrices(), 0, 1, []int{1, 0, 0, 0}, 900}, {examplePrices(), 1, 1, []int{0, 1, 0, 0}, 1500}, {examplePrices(), 2, 1, []int{1, 1, 0, 0}, 2400},
		// Two return ones cost as much as a day one.
		{examplePrices(), 2, 2, []int{0, 0, 1, 0}, 3000}, {examplePrices(), 20, 20, []int{0, 0, 1, 0}, 3000}, {examplePrices(), 3, 0, []int{3, 0, 0, 0}, 2700}, {examplePrices(), 4, 0, []int{0, 0, 1, 0}, 3000}, {examplePrices(), 0, 20, []int{0, 0, 1, 0}, 3000},
		// The lexicographically smallest numbers of Tickets that cost nothing.
		{prices(0, 0, 0, 0), 0, 0, []int{0, 0, 0, 0}, 0}, {prices(0, 0, 0, 0), 1, 0, []int{0, 0, 0, 1}, 0}, {prices(0, 0, 0, 0), 10, 1, []int{0, 0, 0, 2}, 0}, {prices(0, 0, 0, 0), 20, 20, []int{0, 0, 0, 4}, 0},
		{prices(0, 0, 0, 1), 20, 20, []int{0, 0, 1, 0}, 0}, {prices(0, 0, 1, 1), 20, 20, []int{0, 20, 0, 0}, 0}, {prices(0, 0, 1, 1), 5, 2, []int{0, 5, 0, 0}, 0}, {prices(0, 1, 1, 1), 5, 2, []int{7, 0, 0, 0}, 0}, {prices(0, 1, 1, 1), 11, 10, []int{0, 0, 1, 0}, 1},
		// Ten ones, for rides in one direction and in both.
		{prices(1000, 2000, 50000, 7000), 10, 0, []int{0, 0, 0, 1}, 7000}, {prices(1000, 2000, 50000, 7000), 4, 6, []int{0, 0, 0, 1}, 7000}, {prices(1000, 2000, 50000, 7000), 6, 5, []int{1, 0, 0, 1}, 8000}, {prices(1000, 2000, 50000, 7000), 20, 20, []int{0, 0, 0, 4}, 28000}, {prices(1000, 2000, 50000, 7000), 20, 7, []int{0, 0, 0, 3}, 21000}, {prices(1000, 2000, 50000, 7000), 7, 0, []int{0, 0, 0, 1}, 7000}, {prices(1000, 2000, 50000, 7000), 6, 0, []int{6, 0, 0, 0}, 6000},
		// More than 20 single ones would be cheaper.
		{prices(1, 50000, 50000, 50000), 10, 10, []int{20, 0, 0, 0}, 20}, {prices(1, 50000, 50000, 50000), 11, 10, []int{0, 0, 1, 0}, 50000}, {prices(1, 50000, 50000, 50000), 20, 20, []int{0, 0, 1, 0}, 50000}, {prices(1, 200, 50000, 50000), 20, 2, []int{20, 1, 0, 0}, 220}, {prices(1, 40000, 50000, 30000), 11, 10, []int{11, 0, 0, 1}, 30011},
		// A return one is worth buying for one ride too.
		{prices(900, 500, 3000, 7000), 1, 0, []int{0, 1, 0, 0}, 500}, {prices(900, 500, 3000, 7000), 3, 1, []int{0, 3, 0, 0}, 1500}, {prices(50000, 50000, 50000, 50000), 20, 20, []int{0, 0, 1, 0}, 50000}, {prices(50000, 50000, 50000, 50000), 1, 1, []int{0, 0, 0, 1}, 50000}, {prices(50000, 50000, 50000, 50000), 1, 0, []int{0, 0, 0, 1}, 50000},
	}
	for _, c := range cases {
		if counts, sum, ok := impl.CheapestFor(c.prices, c.ups, c.downs); !ok || sum != c.sum || !slices.Equal(counts, c.counts) {
			t.Errorf("CheapestFor(%+v, %d, %d) = %v, %d, %v, not %v, %d", c.prices, c.ups, c.downs, counts, sum, ok, c.counts, c.sum)
		}
	}
}

// carries reports whether some Tickets of each Kind can be used for ups and downs on one day: it
// tries how many of the rides that are for both directions are used up.
func carries(counts []int, ups, downs int) bool {
	both := counts[impl.TicketSingle] + 10*counts[impl.TicketTen]
	each := counts[impl.TicketReturn] + 50*counts[impl.TicketDay]
	for up := range min(both, 20) + 1 {
		if ups <= each+up && downs <= each+both-up {
			return true
		}
	}
	return false
}

// countsUpTo returns lists of numbers of Tickets of each Kind, up to some numbers, in lexicographic
// order, that carry ups and downs.
func countsUpTo(most [4]int, ups, downs int) [][4]int {
	list := [][4]int{}
	for a := range most[0] + 1 {
		for b := range most[1] + 1 {
			for c := range most[2] + 1 {
				for d := range most[3] + 1 {
					if counts := [4]int{a, b, c, d}; carries(counts[:], ups, downs) {
						list = append(list, counts)
					}
				}
			}
		}
	}
	return list
}

// cheapestOf returns the first one of the cheapest of some numbers of Tickets, and its price.
func cheapestOf(p impl.Prices, list [][4]int) ([]int, int) {
	best, least := []int{}, -1
	for _, c := range list {
		if sum := c[0]*p.Single + c[1]*p.Return + c[2]*p.Day + c[3]*p.Ten; least < 0 || sum < least {
			best, least = slices.Clone(c[:]), sum
		}
	}
	return best, least
}

// pricesOf returns Prices that are often equal, or multiples of each other, or nothing.
func pricesOf(seed int) impl.Prices {
	next := numbers(seed)
	single := []int{0, 1, 1 + next(9), 100 * (1 + next(9)), next(5001), 50000}[next(6)]
	return prices(single, min(single*(1+next(2))+next(2), 50000), min(single*next(20)+next(2)*next(100), 50000), min(single*(2+next(8))+next(3), 50000))
}

// TestCheapestForEveryNumberOfRides looks at all numbers of Tickets that can be worth buying: four ten
// ones or one day one are enough for all rides.
func TestCheapestForEveryNumberOfRides(t *testing.T) {
	kinds, ties := [4]int{}, 0
	for ups := range 21 {
		for downs := range 21 {
			list := countsUpTo([4]int{20, 20, 1, 4}, ups, downs)
			for i := range 20 {
				p := pricesOf(20*(21*ups+downs) + i)
				want, least := cheapestOf(p, list)
				counts, sum, ok := impl.CheapestFor(p, ups, downs)
				if !ok || sum != least || !slices.Equal(counts, want) {
					t.Fatalf("CheapestFor(%+v, %d, %d) = %v, %d, %v, not %v, %d", p, ups, downs, counts, sum, ok, want, least)
				}
				for kind, n := range counts {
					kinds[kind] += min(n, 1)
				}
				slices.Reverse(list)
				if last, _ := cheapestOf(p, list); !slices.Equal(last, want) {
					ties++
				}
				slices.Reverse(list)
			}
		}
	}
	if slices.Min(kinds[:]) < 500 || ties < 500 {
		t.Errorf("of each Kind there are only %v, and %d ties", kinds, ties)
	}
}

// TestCheapestForAmongAllNumbers looks at all numbers of Tickets up to 20 of each Kind.
func TestCheapestForAmongAllNumbers(t *testing.T) {
	for i, rides := range [][]int{{0, 0}, {1, 0}, {3, 2}, {10, 11}, {20, 0}, {7, 20}, {20, 20}} {
		list := countsUpTo([4]int{20, 20, 20, 20}, rides[0], rides[1])
		for seed := range 15 {
			p := []impl.Prices{examplePrices(), prices(0, 0, 0, 0), prices(50000, 50000, 50000, 50000), prices(1, 50000, 50000, 50000), prices(0, 1, 1, 1), pricesOf(100*i + seed)}[min(seed, 5)]
			want, least := cheapestOf(p, list)
			counts, sum, ok := impl.CheapestFor(p, rides[0], rides[1])
			if !ok || sum != least || !slices.Equal(counts, want) {
				t.Fatalf("CheapestFor(%+v, %v) = %v, %d, %v, not %v, %d", p, rides, counts, sum, ok, want, least)
			}
		}
	}
}

// rideWith uses one of some Tickets of a list each on a day, the first one that can be used, and
// returns whether there is one.
func rideWith(bought [][]impl.Ticket, day int, up bool) bool {
	for i, list := range bought {
		if used, ok := impl.UseTicket(list, 1, day, up); ok {
			bought[i] = used
			return true
		}
	}
	return false
}

// TestTheCheapestTicketsCarryTheRides buys them and uses them on one day, first those with rides of
// their own for each direction.
func TestTheCheapestTicketsCarryTheRides(t *testing.T) {
	for seed := range 2000 {
		next := numbers(seed)
		p, ups, downs := pricesOf(seed), next(21), next(21)
		counts, sum, ok := impl.CheapestFor(p, ups, downs)
		if !ok {
			t.Fatalf("CheapestFor(%+v, %d, %d) fails", p, ups, downs)
		}
		bought, paid := [][]impl.Ticket{}, 0
		for _, kind := range []int{impl.TicketReturn, impl.TicketDay, impl.TicketSingle, impl.TicketTen} {
			for range counts[kind] {
				list, _, sold := impl.SellTicket(nil, kind, 500)
				sales, salesOk := impl.SalesOn(p, list, 500)
				if !sold || !salesOk {
					t.Fatalf("a Ticket of the Kind %d cannot be bought", kind)
				}
				bought, paid = append(bought, list), paid+sales
			}
		}
		for i := range ups + downs {
			if !rideWith(bought, 500, i < ups) {
				t.Fatalf("CheapestFor(%+v, %d, %d) = %v, which is not enough for the ride %d", p, ups, downs, counts, i)
			}
		}
		if paid != sum {
			t.Fatalf("CheapestFor(%+v, %d, %d) = %v, %d, but they cost %d", p, ups, downs, counts, sum, paid)
		}
	}
}

func TestCheapestForFails(t *testing.T) {
	check := func(p impl.Prices, ups, downs int) {
		if counts, sum, ok := impl.CheapestFor(p, ups, downs); ok || sum != 0 || len(counts) != 0 {
			t.Errorf("CheapestFor(%+v, %d, %d) = %v, %d, %v", p, ups, downs, counts, sum, ok)
		}
	}
	for _, p := range invalidPrices() {
		check(p, 0, 0)
		check(p, 3, 2)
		check(p, 20, 20)
	}
	for _, n := range append(extremes(), -2, 21, 22, 50) {
		for _, p := range []impl.Prices{examplePrices(), prices(0, 0, 0, 0)} {
			check(p, n, 0)
			check(p, 0, n)
			check(p, n, n)
			check(p, 20, n)
			check(p, n, 20)
		}
	}
}

func TestExpiredOnValues(t *testing.T) {
	cases := []struct {
		day  int
		want []int
	}{
		{0, nil}, {8, nil}, {9, nil}, {10, nil}, {11, []int{5, 701}}, {12, []int{1, 3, 5, 6, 700, 701}}, {13, []int{1, 3, 5, 6, 40, 700, 701}}, {364, []int{1, 3, 5, 6, 40, 700, 701}}, {365, []int{1, 3, 5, 6, 40, 700, 701, 9998}},
		{374, []int{1, 3, 5, 6, 40, 700, 701, 9998}}, {375, []int{1, 2, 3, 5, 6, 40, 700, 701, 9998}}, {376, []int{1, 2, 3, 5, 6, 40, 41, 700, 701, 9998}}, {999, []int{1, 2, 3, 5, 6, 40, 41, 700, 701, 9998}},
	}
	for _, c := range cases {
		if n, ok := impl.ExpiredOn(exampleTickets(), c.day); !ok || !slices.Equal(n, c.want) {
			t.Errorf("ExpiredOn(%d) = %v, %v, not %v", c.day, n, ok, c.want)
		}
		if n, ok := impl.ExpiredOn(nil, c.day); !ok || len(n) != 0 {
			t.Errorf("ExpiredOn of no Tickets on %d = %v, %v", c.day, n, ok)
		}
	}
}

func TestExpiredOnEveryDay(t *testing.T) {
	expired, unsold := 0, 0
	eachTickets(func(list []impl.Ticket) {
		days := []int{0, 1, 500, 999}
		for _, x := range list {
			days = append(days, daysAround(x)...)
		}
		for _, day := range days {
			want := []int{}
			for _, x := range list {
				if x.Day > day {
					unsold++
				} else if !onTime(x.Kind, day-x.Day) {
					want = append(want, x.Number)
				}
			}
			expired += len(want)
			if n, ok := impl.ExpiredOn(list, day); !ok || !slices.Equal(n, want) {
				t.Fatalf("ExpiredOn(%v, %d) = %v, %v, not %v", list, day, n, ok, want)
			}
		}
	})
	if expired < 5000 || unsold < 5000 {
		t.Errorf("only %d are expired, and %d not yet sold", expired, unsold)
	}
}

func TestExpiredOnFails(t *testing.T) {
	for _, day := range wrongTicketDays() {
		for _, list := range [][]impl.Ticket{nil, exampleTickets()} {
			if n, ok := impl.ExpiredOn(list, day); ok || len(n) != 0 {
				t.Errorf("ExpiredOn(%v, %d) = %v, %v", list, day, n, ok)
			}
		}
	}
	for _, list := range invalidTicketLists() {
		if n, ok := impl.ExpiredOn(list, 999); ok || len(n) != 0 {
			t.Errorf("ExpiredOn(%.300s) = %v, %v", fmt.Sprint(list), n, ok)
		}
	}
}

// ticketResults returns the results of all functions of the chapter about lists as text. It fails the
// test if one of them succeeds for an invalid list, or returns a result beside false that is not
// zero.
func ticketResults(t *testing.T, list []impl.Ticket, p impl.Prices, n int, m int, up bool) string {
	t.Helper()
	valid := impl.AreTickets(list)
	used, usedOk := impl.UseTicket(list, n, m, up)
	sold, number, soldOk := impl.SellTicket(list, n, m)
	people, peopleOk := impl.StillUp(list)
	sales, salesOk := impl.SalesOn(p, list, m)
	expired, expiredOk := impl.ExpiredOn(list, m)
	isDay := 0 <= m && m <= 999
	if peopleOk != valid || expiredOk != (valid && isDay) || salesOk && !(valid && isDay) || usedOk && !(valid && isDay) || soldOk && !(valid && isDay) {
		t.Fatalf("%.300s, %d, %d: valid is %v, and a function returns something else", fmt.Sprint(list), n, m, valid)
	}
	if !usedOk && len(used) != 0 || !soldOk && (len(sold) != 0 || number != 0) || !peopleOk && people != 0 || !salesOk && sales != 0 || !expiredOk && len(expired) != 0 {
		t.Fatalf("%.300s, %d, %d: a result beside false is not zero", fmt.Sprint(list), n, m)
	}
	if usedOk && !impl.AreTickets(used) || soldOk && !impl.AreTickets(sold) {
		t.Fatalf("%v, %d, %d: a result is not valid: %v, %v", list, n, m, used, sold)
	}
	return fmt.Sprint(valid, used, usedOk, sold, number, soldOk, people, peopleOk, sales, salesOk, expired, expiredOk)
}

// TestTicketsReturnForAllArguments gives valid and invalid arguments to every function of the
// chapter, as parts of longer lists, and expects that nothing in these lists changes, that what
// stands behind them does not count, and that a second call returns the same.
func TestTicketsReturnForAllArguments(t *testing.T) {
	behind := []impl.Ticket{ticket(9999, 3, 7, 1, 1), ticket(2, 0, 999, 1, 0), ticket(math.MinInt, -1, math.MaxInt, -1, 1)}
	check := func(list []impl.Ticket, p impl.Prices, n, m int, up bool) {
		memory := append(slices.Clone(list), behind...)
		before := slices.Clone(memory)
		first := ticketResults(t, slices.Clone(list), p, n, m, up)
		if second := ticketResults(t, memory[:len(list)], p, n, m, up); second != first {
			t.Fatalf("%.300s and then %.300s", first, second)
		}
		if !slices.Equal(memory, before) {
			t.Fatalf("the argument %.300s is changed", fmt.Sprint(list))
		}
	}
	for seed := range 500 {
		list := ticketsOf(seed)
		for _, m := range []int{0, 1, 10, 11, 374, 999} {
			check(list, pricesOf(seed), seed%6, m, seed%2 == 0)
			if len(list) > 0 {
				x := list[seed%len(list)]
				check(list, pricesOf(seed), x.Number, x.Day, m%2 == 0)
			}
		}
	}
	for _, list := range append(invalidTicketLists(), exampleTickets(), mostTickets(), nil) {
		for _, n := range append(extremes(), 0, 1, 2, 9) {
			check(list, examplePrices(), n, 7, true)
			check(list, examplePrices(), 1, n, false)
			check(list, prices(n, 1, 1, 1), n, n, n%2 == 0)
		}
	}
	for _, n := range extremes() {
		for _, m := range append(extremes(), 1, 8) {
			x := ticket(m, n, m, n, m)
			check([]impl.Ticket{x}, prices(m, n, m, n), n, m, n%2 == 0)
			can, canOk := impl.CanRide(x, m, n%2 == 0)
			ups, downs, leftOk := impl.RidesLeft(x, m)
			counts, sum, countsOk := impl.CheapestFor(prices(n, m, n, m), n, m)
			if can || canOk || ups != 0 || downs != 0 || leftOk || len(counts) != 0 || sum != 0 || countsOk {
				t.Errorf("%+v: %v, %v, %d, %d, %v, %v, %d, %v", x, can, canOk, ups, downs, leftOk, counts, sum, countsOk)
			}
		}
	}
}

// TestTicketsReturnNewMemory changes the results, and behind their length, and expects that neither
// the argument nor a later result changes with them.
func TestTicketsReturnNewMemory(t *testing.T) {
	memory := exampleTickets()
	before := slices.Clone(memory)
	use := func(list []impl.Ticket) ([]impl.Ticket, bool) { return impl.UseTicket(list, 1, 10, true) }
	sell := func(list []impl.Ticket) ([]impl.Ticket, bool) {
		sold, _, ok := impl.SellTicket(list, impl.TicketTen, 12)
		return sold, ok
	}
	expired := func(list []impl.Ticket) ([]int, bool) { return impl.ExpiredOn(list, 999) }
	cheapest := func([]impl.Ticket) ([]int, bool) {
		counts, _, ok := impl.CheapestFor(examplePrices(), 3, 1)
		return counts, ok
	}
	for count := 1; count <= len(memory); count++ {
		list := memory[:count]
		for _, f := range []func([]impl.Ticket) ([]impl.Ticket, bool){use, sell} {
			one, ok := f(list)
			two, _ := f(list)
			kept := slices.Clone(two)
			if !ok || !slices.Equal(one, two) {
				t.Fatalf("%v: %v, %v and then %v", list, one, ok, two)
			}
			_ = append(one[:1], ticket(77, 1, 7, 1, 1), ticket(78, 2, 8, 8, 8))
			clear(one)
			if !slices.Equal(memory, before) || !slices.Equal(two, kept) {
				t.Errorf("a result of %v shares memory", list)
			}
		}
		for _, f := range []func([]impl.Ticket) ([]int, bool){expired, cheapest} {
			one, ok := f(list)
			two, _ := f(list)
			kept := slices.Clone(two)
			if !ok || len(one) == 0 || !slices.Equal(one, two) {
				t.Fatalf("%v: %v, %v and then %v", list, one, ok, two)
			}
			clear(one)
			if three, _ := f(list); !slices.Equal(memory, before) || !slices.Equal(two, kept) || !slices.Equal(three, kept) {
				t.Errorf("a result of %v shares memory", list)
			}
		}
	}
}
