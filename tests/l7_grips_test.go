package tests

import (
	"fmt"
	"math"
	"slices"
	"testing"

	"loop.example/g00935/impl"
)

func grip(cabin, force, slip, opened, tested int) impl.Grip {
	return impl.Grip{Cabin: cabin, Force: force, Slip: slip, Opened: opened, Tested: tested}
}

// exampleGrips have equal Forces and equal Slips among them; one is at GripLimit, one behind it.
func exampleGrips() []impl.Grip {
	return []impl.Grip{
		grip(1, 825, 0, 0, 100), grip(3, 825, 41, 4999, 100), grip(4, 600, 5, 5000, 120), grip(9, 5000, 40, 12, 0), grip(40, 600, 10, 7, 30), grip(99, 825, 41, 99999, 90),
	}
}

// mostGrips has as many Grips as a list can have, and meets every limit of their numbers.
func mostGrips() []impl.Grip {
	list := []impl.Grip{}
	for i := range impl.MaxGrips {
		g := grip(1+i*98/(impl.MaxGrips-1), 5000, 99, 99999, 9999)
		if i%2 > 0 {
			g = grip(g.Cabin, 0, 0, 0, 0)
		}
		list = append(list, g)
	}
	return list
}

// gripsOf returns a valid list, in which Forces and Slips are often equal, and often at a limit. In
// every second list the Grips slipped little, were Opened seldom and Tested lately.
func gripsOf(seed int) []impl.Grip {
	next := numbers(seed)
	forces := [][]int{{0, 1, 2}, {297, 298, 824, 825, 826}, {next(5001), next(5001), 5000}}[next(3)]
	calm := seed%2 == 0
	list := []impl.Grip{}
	cabin := 0
	for range next(impl.MaxGrips + 1) {
		cabin += 1 + next(8)
		g := grip(cabin, forces[next(len(forces))], []int{0, 10, 11, 40, 41, 99, next(100)}[next(7)], []int{0, 4999, 5000, 99998, 99999, next(100000)}[next(6)], []int{0, 500 + next(3), next(10000), 9998 + next(2)}[next(4)])
		if calm {
			g.Slip, g.Opened, g.Tested = []int{0, 9, 10, 10, 11}[next(5)], []int{0, 4998, 4999, 4999, 5000}[next(5)], 500+next(3)
		}
		list = append(list, g)
	}
	return list
}

// eachGrips calls f with a valid list, many times.
func eachGrips(f func(list []impl.Grip)) {
	f(nil)
	f([]impl.Grip{})
	f(exampleGrips())
	f(mostGrips())
	for seed := range 2000 {
		f(gripsOf(seed))
	}
}

// invalidGrips returns Grips that break one rule each.
func invalidGrips() []impl.Grip {
	list := []impl.Grip{{}}
	for i, wrong := range [][]int{{0, 100}, {5001}, {100}, {100000}, {10000}} {
		for _, n := range append(wrong, extremes()...) {
			g := grip(5, 900, 5, 5, 50)
			*[]*int{&g.Cabin, &g.Force, &g.Slip, &g.Opened, &g.Tested}[i] = n
			list = append(list, g)
		}
	}
	return list
}

// invalidGripLists returns lists that break one rule each.
func invalidGripLists() [][]impl.Grip {
	thirteen := []impl.Grip{}
	for i := range impl.MaxGrips + 1 {
		thirteen = append(thirteen, grip(i+1, 900, 5, 5, 50))
	}
	one, two, three := grip(1, 900, 5, 5, 50), grip(2, 900, 0, 7, 50), grip(3, 800, 5, 5, 60)
	lists := [][]impl.Grip{
		thirteen, make([]impl.Grip, 100000), {one, one}, {two, one}, {one, three, two}, {two, one, three}, {one, two, two}, {one, grip(1, 1, 1, 1, 1)},
	}
	for _, g := range invalidGrips() {
		lists = append(lists, []impl.Grip{g}, []impl.Grip{one, g}, []impl.Grip{g, grip(99, 900, 5, 5, 50)}, []impl.Grip{one, two, g, grip(9, 900, 5, 5, 50)})
	}
	return lists
}

// wrongLoads are numbers that are no load of a Grip.
func wrongLoads() []int {
	return append(extremes(), 0, 1, 99, 4001, 5000)
}

// wrongSlopes are numbers that are no slope.
func wrongSlopes() []int {
	return append(extremes(), -2, 101, 102, 1000)
}

// wrongDays are numbers that are no day.
func wrongDays() []int {
	return append(extremes(), -2, 10000, 10001)
}

// loadsFor returns as many loads as there are Grips.
func loadsFor(list []impl.Grip, load int) []int {
	loads := []int{}
	for i := range list {
		loads = append(loads, min(load+37*i, 4000))
	}
	return loads
}

// hasPull reports whether a pull is what a load has on a slope: rounded up, it is not less than it
// is exactly, and less than one more.
func hasPull(load, slope, pull int) bool {
	exact := load * 981 * slope
	return 100000*pull >= exact && 100000*(pull-1) < exact
}

func TestIsGripAcceptsUpToTheLimits(t *testing.T) {
	for i, limits := range [][]int{{1, 2, 50, 98, 99}, {0, 1, 4999, 5000}, {0, 1, 40, 41, 98, 99}, {0, 1, 99998, 99999}, {0, 1, 9998, 9999}} {
		for _, n := range limits {
			g := grip(5, 900, 5, 5, 50)
			*[]*int{&g.Cabin, &g.Force, &g.Slip, &g.Opened, &g.Tested}[i] = n
			if !impl.IsGrip(g) || !impl.AreGrips([]impl.Grip{g}) {
				t.Errorf("%+v is not valid", g)
			}
		}
	}
	for _, g := range invalidGrips() {
		if impl.IsGrip(g) || impl.AreGrips([]impl.Grip{g}) {
			t.Errorf("%+v is valid", g)
		}
	}
	if impl.MaxGrips != 12 || impl.GripLimit != 40 {
		t.Errorf("MaxGrips is %d, GripLimit %d", impl.MaxGrips, impl.GripLimit)
	}
}

func TestAreGrips(t *testing.T) {
	eachGrips(func(list []impl.Grip) {
		if !impl.AreGrips(list) {
			t.Fatalf("%v is not valid", list)
		}
		for i, g := range list {
			if !impl.IsGrip(g) || !impl.AreGrips(list[i:]) || !impl.AreGrips(list[:i]) {
				t.Fatalf("a part of %v is not valid", list)
			}
		}
		if len(list) > 1 && (impl.AreGrips([]impl.Grip{list[1], list[0]}) || impl.AreGrips([]impl.Grip{list[0], list[0]})) {
			t.Fatalf("%v is valid in another order", list[:2])
		}
	})
	for _, list := range invalidGripLists() {
		if impl.AreGrips(list) {
			t.Errorf("%.300s is valid", fmt.Sprint(list))
		}
	}
}

func TestPullOfValues(t *testing.T) {
	cases := []struct{ load, slope, want int }{
		{800, 35, 275}, {800, 36, 283}, {100, 0, 0}, {4000, 0, 0}, {100, 1, 1}, {100, 2, 2}, {100, 100, 99}, {101, 100, 100}, {4000, 1, 40}, {4000, 99, 3885}, {4000, 100, 3924},
		// Exactly a whole number: nothing is rounded.
		{1000, 100, 981}, {2000, 50, 981}, {2500, 40, 981}, {1250, 80, 981}, {1000, 99, 972}, {4000, 25, 981}, {4000, 75, 2943},
	}
	for _, c := range cases {
		if n, ok := impl.PullOf(c.load, c.slope); !ok || n != c.want {
			t.Errorf("PullOf(%d, %d) = %d, %v, not %d", c.load, c.slope, n, ok, c.want)
		}
	}
}

func TestPullOfEveryLoadOnEverySlope(t *testing.T) {
	for load := 100; load <= 4000; load++ {
		for slope := range 101 {
			if n, ok := impl.PullOf(load, slope); !ok || !hasPull(load, slope, n) {
				t.Fatalf("PullOf(%d, %d) = %d, %v", load, slope, n, ok)
			}
		}
	}
	for _, load := range wrongLoads() {
		for _, slope := range []int{0, 1, 35, 100} {
			if n, ok := impl.PullOf(load, slope); ok || n != 0 {
				t.Errorf("PullOf(%d, %d) = %d, %v", load, slope, n, ok)
			}
		}
	}
	for _, slope := range wrongSlopes() {
		for _, load := range append(wrongLoads(), 100, 800, 4000) {
			if n, ok := impl.PullOf(load, slope); ok || n != 0 {
				t.Errorf("PullOf(%d, %d) = %d, %v", load, slope, n, ok)
			}
		}
	}
}

func TestDoesHoldWithAForceThatIsJustEnough(t *testing.T) {
	cases := []struct {
		force, slip, load, slope int
		want                     bool
	}{
		{825, 0, 800, 35, true}, {824, 0, 800, 35, false}, {826, 0, 800, 35, true}, {825, 0, 800, 36, false}, {825, 0, 801, 35, false}, {825, 0, 799, 35, true},
		{849, 0, 800, 36, true}, {848, 0, 800, 36, false}, {2943, 0, 1000, 100, true}, {2942, 0, 1000, 100, false}, {3, 0, 100, 1, true}, {2, 0, 100, 1, false},
		{297, 0, 100, 100, true}, {296, 0, 100, 100, false}, {5000, 0, 4000, 42, true}, {5000, 0, 4000, 43, false}, {5000, 0, 4000, 100, false},
		// Three times the pull, not three times what is not yet rounded up: 3 * 274.68 is 824.04.
		{824, 40, 800, 35, false}, {825, 40, 800, 35, true},
		// On the level there is no pull, so that no Force is enough; the Slip counts there too.
		{0, 0, 100, 0, true}, {0, 40, 4000, 0, true}, {0, 41, 4000, 0, false}, {0, 0, 100, 1, false}, {5000, 41, 100, 0, false}, {5000, 99, 100, 0, false},
		{825, 39, 800, 35, true}, {825, 41, 800, 35, false}, {5000, 40, 100, 100, true}, {5000, 41, 100, 100, false},
	}
	for _, c := range cases {
		g := grip(5, c.force, c.slip, 99999, 3)
		if holds, ok := impl.DoesHold(g, c.load, c.slope); !ok || holds != c.want {
			t.Errorf("DoesHold(%+v, %d, %d) = %v, %v, not %v", g, c.load, c.slope, holds, ok, c.want)
		}
	}
}

// TestDoesHoldOnEverySlope gives a Grip three times the pull, and one less, at each Slip around the
// limit.
func TestDoesHoldOnEverySlope(t *testing.T) {
	enough, less := 0, 0
	for load := 100; load <= 4000; load += 13 {
		for slope := range 101 {
			pull, _ := impl.PullOf(load, slope)
			for _, force := range []int{3*pull - 1, 3 * pull, 3*pull + 1, 0, 5000} {
				for _, slip := range []int{0, 39, 40, 41, 99} {
					g := grip(5, force, slip, 5000, 0)
					valid := 0 <= force && force <= 5000
					want := valid && force >= 3*pull && slip <= 40
					if holds, ok := impl.DoesHold(g, load, slope); ok != valid || holds != want {
						t.Fatalf("DoesHold(%+v, %d, %d) = %v, %v, not %v", g, load, slope, holds, ok, want)
					}
					if want && force == 3*pull {
						enough++
					} else if valid && slip <= 40 && force == 3*pull-1 {
						less++
					}
				}
			}
		}
	}
	if enough < 10000 || less < 10000 {
		t.Errorf("only %d Forces are just enough, and %d one less", enough, less)
	}
}

func TestDoesHoldFails(t *testing.T) {
	for _, slip := range []int{0, 41} {
		g := grip(5, 5000, slip, 0, 0)
		for _, load := range wrongLoads() {
			if holds, ok := impl.DoesHold(g, load, 0); ok || holds {
				t.Errorf("DoesHold of the load %d = %v, %v", load, holds, ok)
			}
		}
		for _, slope := range wrongSlopes() {
			if holds, ok := impl.DoesHold(g, 100, slope); ok || holds {
				t.Errorf("DoesHold on the slope %d = %v, %v", slope, holds, ok)
			}
		}
	}
	for _, g := range invalidGrips() {
		for _, slope := range []int{0, 100} {
			if holds, ok := impl.DoesHold(g, 100, slope); ok || holds {
				t.Errorf("DoesHold(%+v, 100, %d) = %v, %v", g, slope, holds, ok)
			}
		}
	}
}

func TestSteepestHeldValues(t *testing.T) {
	cases := []struct{ force, slip, load, want int }{
		{825, 0, 800, 35}, {824, 0, 800, 34}, {848, 0, 800, 35}, {849, 0, 800, 36}, {5000, 0, 4000, 42}, {5000, 40, 100, 100}, {297, 40, 100, 100}, {296, 40, 100, 99},
		{0, 0, 100, 0}, {0, 40, 4000, 0}, {2, 0, 100, 0}, {3, 0, 100, 1}, {119, 0, 4000, 0}, {120, 0, 4000, 1}, {2943, 0, 1000, 100}, {2942, 0, 1000, 99},
	}
	for _, c := range cases {
		g := grip(5, c.force, c.slip, 99999, 3)
		if n, ok := impl.SteepestHeld(g, c.load); !ok || n != c.want {
			t.Errorf("SteepestHeld(%+v, %d) = %d, %v, not %d", g, c.load, n, ok, c.want)
		}
	}
	for _, slip := range []int{41, 42, 99} {
		for _, force := range []int{0, 825, 5000} {
			if n, ok := impl.SteepestHeld(grip(5, force, slip, 0, 0), 100); ok || n != 0 {
				t.Errorf("SteepestHeld with a Slip of %d = %d, %v", slip, n, ok)
			}
		}
	}
	for _, load := range wrongLoads() {
		if n, ok := impl.SteepestHeld(grip(5, 5000, 0, 0, 0), load); ok || n != 0 {
			t.Errorf("SteepestHeld of the load %d = %d, %v", load, n, ok)
		}
	}
	for _, g := range invalidGrips() {
		if n, ok := impl.SteepestHeld(g, 100); ok || n != 0 {
			t.Errorf("SteepestHeld(%+v) = %d, %v", g, n, ok)
		}
	}
}

// holdsExactly tells by the exact pull of a load on a slope whether a Force is at least three times
// the pull, which is rounded up: a third of the Force, rounded down, is then at least the exact one.
func holdsExactly(force, load, slope int) bool {
	return 100000*(force/3) >= load*981*slope
}

func TestAGripHoldsOnItsSteepestSlopeAndOnNoSteeperOne(t *testing.T) {
	level, between, steepest, slips := 0, 0, 0, 0
	for force := 0; force <= 5000; force += 1 + force%7 {
		for _, slip := range []int{0, 39, 40, 41, 99} {
			g := grip(1+force%99, force, slip, force%100000, force)
			for _, load := range []int{100, 101, 100 + force*3%3901, 800, 1000, 3999, 4000} {
				n, ok := impl.SteepestHeld(g, load)
				if ok != (slip <= 40) || !ok && n != 0 || n < 0 || n > 100 {
					t.Fatalf("SteepestHeld(%+v, %d) = %d, %v", g, load, n, ok)
				}
				for slope := range 101 {
					holds, holdsOk := impl.DoesHold(g, load, slope)
					if !holdsOk || holds != (ok && slope <= n) || ok && holds != holdsExactly(force, load, slope) {
						t.Fatalf("SteepestHeld(%+v, %d) = %d, %v, and on %d it holds: %v, %v", g, load, n, ok, slope, holds, holdsOk)
					}
				}
				switch {
				case !ok:
					slips++
				case n == 0:
					level++
				case n < 100:
					between++
				default:
					steepest++
				}
			}
		}
	}
	if level < 100 || between < 5000 || steepest < 5000 || slips < 5000 {
		t.Errorf("too few: %d only on the level, %d up to a slope, %d on all, %d on none", level, between, steepest, slips)
	}
}

func TestOpenGripValues(t *testing.T) {
	list := exampleGrips()
	cases := []struct {
		cabin, slip int
		want        impl.Grip
	}{
		{1, 5, grip(1, 825, 5, 1, 100)}, {1, 0, grip(1, 825, 0, 1, 100)}, {1, 99, grip(1, 825, 99, 1, 100)}, {3, 58, grip(3, 825, 99, 5000, 100)}, {3, 1, grip(3, 825, 42, 5000, 100)},
		{4, 94, grip(4, 600, 99, 5001, 120)}, {9, 0, grip(9, 5000, 40, 13, 0)}, {9, 1, grip(9, 5000, 41, 13, 0)}, {40, 89, grip(40, 600, 99, 8, 30)},
		// More than 99 millimeters, more than 99999 times opened, and no slip.
		{3, 59, impl.Grip{}}, {4, 95, impl.Grip{}}, {9, 99, impl.Grip{}}, {40, 90, impl.Grip{}}, {99, 0, impl.Grip{}}, {99, 1, impl.Grip{}}, {1, 100, impl.Grip{}}, {3, -1, impl.Grip{}}, {9, -40, impl.Grip{}},
		// No such Cabin.
		{0, 5, impl.Grip{}}, {2, 5, impl.Grip{}}, {5, 5, impl.Grip{}}, {98, 5, impl.Grip{}}, {100, 5, impl.Grip{}}, {-1, 5, impl.Grip{}},
	}
	for _, c := range cases {
		opened, ok := impl.OpenGrip(list, c.cabin, c.slip)
		if c.want == (impl.Grip{}) {
			if ok || len(opened) != 0 {
				t.Errorf("OpenGrip(%d, %d) = %v, %v", c.cabin, c.slip, opened, ok)
			}
			continue
		}
		want := exampleGrips()
		want[slices.IndexFunc(want, func(g impl.Grip) bool { return g.Cabin == c.cabin })] = c.want
		if !ok || !slices.Equal(opened, want) {
			t.Errorf("OpenGrip(%d, %d) = %v, %v, not %v", c.cabin, c.slip, opened, ok, want)
		}
	}
}

func TestOpenGripOfManyLists(t *testing.T) {
	opens, fails := 0, 0
	eachGrips(func(list []impl.Grip) {
		for i, g := range list {
			for _, slip := range append(extremes(), 0, 1, 50, 98, 99, 100, 99-g.Slip, 100-g.Slip, -g.Slip) {
				wantOk := 0 <= slip && slip <= 99 && g.Slip+slip <= 99 && g.Opened < 99999
				opened, ok := impl.OpenGrip(list, g.Cabin, slip)
				if !wantOk {
					fails++
					if ok || len(opened) != 0 {
						t.Fatalf("OpenGrip(%v, %d, %d) = %v, %v", list, g.Cabin, slip, opened, ok)
					}
					continue
				}
				opens++
				want := slices.Clone(list)
				want[i].Slip, want[i].Opened = g.Slip+slip, g.Opened+1
				if !ok || !slices.Equal(opened, want) {
					t.Fatalf("OpenGrip(%v, %d, %d) = %v, %v, not %v", list, g.Cabin, slip, opened, ok, want)
				}
			}
		}
	})
	if opens < 5000 || fails < 5000 {
		t.Errorf("only %d can be opened, and %d cannot", opens, fails)
	}
}

// TestAGripSlipsUntilItNoLongerHolds opens a Grip until its Slip is behind GripLimit, and tests it.
func TestAGripSlipsUntilItNoLongerHolds(t *testing.T) {
	list := []impl.Grip{grip(5, 825, 0, 0, 10), grip(6, 825, 0, 0, 10)}
	for opened := 1; opened <= 21; opened++ {
		next, ok := impl.OpenGrip(list, 5, 2)
		if !ok || next[0] != grip(5, 825, 2*opened, opened, 10) || next[1] != list[1] {
			t.Fatalf("opened %d times: %v, %v", opened, next, ok)
		}
		list = next
		if holds, ok := impl.DoesHold(list[0], 800, 35); !ok || holds != (2*opened <= 40) {
			t.Errorf("with a Slip of %d it holds: %v, %v", 2*opened, holds, ok)
		}
		if due, ok := impl.DueTests(list, 10); !ok || (len(due) > 0) != (2*opened > 10) {
			t.Errorf("with a Slip of %d there are due: %v, %v", 2*opened, due, ok)
		}
	}
	tested, ok := impl.TestGrip(list, 5, 825, 10)
	if !ok || !slices.Equal(tested, []impl.Grip{grip(5, 825, 0, 0, 10), grip(6, 825, 0, 0, 10)}) {
		t.Fatalf("tested: %v, %v", tested, ok)
	}
	if n, ok := impl.SteepestHeld(tested[0], 800); !ok || n != 35 {
		t.Errorf("SteepestHeld behind the test = %d, %v", n, ok)
	}
}

func TestTestGripValues(t *testing.T) {
	list := exampleGrips()
	cases := []struct {
		cabin, force, day int
		ok                bool
	}{
		{3, 900, 120, true}, {3, 900, 100, true}, {3, 900, 99, false}, {3, 900, 0, false}, {3, 0, 9999, true}, {3, 5000, 101, true}, {3, 5001, 101, false}, {3, -1, 101, false}, {3, 900, 10000, false}, {3, 900, 9999, true},
		{1, 825, 100, true}, {4, 1, 119, false}, {4, 1, 120, true}, {9, 4999, 0, true}, {9, 4999, -1, false}, {99, 600, 90, true}, {99, 600, 89, false}, {40, 600, 31, true},
		{0, 900, 120, false}, {2, 900, 120, false}, {5, 900, 120, false}, {98, 900, 120, false}, {100, 900, 120, false}, {-3, 900, 120, false},
	}
	for _, c := range cases {
		tested, ok := impl.TestGrip(list, c.cabin, c.force, c.day)
		if !c.ok {
			if ok || len(tested) != 0 {
				t.Errorf("TestGrip(%d, %d, %d) = %v, %v", c.cabin, c.force, c.day, tested, ok)
			}
			continue
		}
		want := exampleGrips()
		want[slices.IndexFunc(want, func(g impl.Grip) bool { return g.Cabin == c.cabin })] = grip(c.cabin, c.force, 0, 0, c.day)
		if !ok || !slices.Equal(tested, want) {
			t.Errorf("TestGrip(%d, %d, %d) = %v, %v, not %v", c.cabin, c.force, c.day, tested, ok, want)
		}
	}
}

func TestTestGripOfManyLists(t *testing.T) {
	tests, fails := 0, 0
	eachGrips(func(list []impl.Grip) {
		for i, g := range list {
			for _, force := range []int{math.MinInt, -1, 0, 777, 5000, 5001, math.MaxInt} {
				for _, day := range append(wrongDays(), g.Tested-1, g.Tested, g.Tested+1, 9999) {
					wantOk := 0 <= force && force <= 5000 && g.Tested <= day && day <= 9999
					tested, ok := impl.TestGrip(list, g.Cabin, force, day)
					if !wantOk {
						fails++
						if ok || len(tested) != 0 {
							t.Fatalf("TestGrip(%v, %d, %d, %d) = %v, %v", list, g.Cabin, force, day, tested, ok)
						}
						continue
					}
					tests++
					want := slices.Clone(list)
					want[i] = grip(g.Cabin, force, 0, 0, day)
					if !ok || !slices.Equal(tested, want) {
						t.Fatalf("TestGrip(%v, %d, %d, %d) = %v, %v, not %v", list, g.Cabin, force, day, tested, ok, want)
					}
				}
			}
		}
	})
	if tests < 5000 || fails < 5000 {
		t.Errorf("only %d can be tested, and %d cannot", tests, fails)
	}
}

func TestDueTestsAtTheLimits(t *testing.T) {
	cases := []struct {
		slip, opened, tested, day int
		want                      bool
	}{
		{10, 0, 100, 100, false}, {11, 0, 100, 100, true}, {99, 0, 100, 100, true}, {40, 0, 100, 100, true},
		{0, 4999, 100, 100, false}, {0, 5000, 100, 100, true}, {0, 5001, 100, 100, true}, {0, 99999, 100, 100, true},
		{0, 0, 100, 189, false}, {0, 0, 100, 190, false}, {0, 0, 100, 191, true}, {0, 0, 0, 90, false}, {0, 0, 0, 91, true}, {0, 0, 0, 9999, true}, {0, 0, 9909, 9999, false}, {0, 0, 9908, 9999, true},
		{10, 4999, 100, 190, false}, {11, 4999, 100, 190, true}, {10, 5000, 100, 190, true}, {10, 4999, 100, 191, true}, {0, 0, 9999, 9999, false}, {0, 0, 0, 0, false},
	}
	for _, c := range cases {
		for _, force := range []int{0, 5000} {
			g := grip(5, force, c.slip, c.opened, c.tested)
			due, ok := impl.DueTests([]impl.Grip{g}, c.day)
			if want := []int{5}[:map[bool]int{true: 1}[c.want]]; !ok || !slices.Equal(due, want) {
				t.Errorf("DueTests(%+v, %d) = %v, %v, not %v", g, c.day, due, ok, want)
			}
		}
	}
	for _, c := range []struct {
		day  int
		want []int
	}{{120, []int{3, 4, 9, 99}}, {121, []int{3, 4, 9, 40, 99}}, {190, []int{3, 4, 9, 40, 99}}, {191, []int{1, 3, 4, 9, 40, 99}}, {9999, []int{1, 3, 4, 9, 40, 99}}} {
		if due, ok := impl.DueTests(exampleGrips(), c.day); !ok || !slices.Equal(due, c.want) {
			t.Errorf("DueTests on %d = %v, %v, not %v", c.day, due, ok, c.want)
		}
	}
}

// TestDueTestsFails expects that no Grip of the list may be Tested behind the day, at whatever place
// in the list it stands, and whether it is due otherwise or not.
func TestDueTestsFails(t *testing.T) {
	for _, day := range []int{0, 29, 30, 89, 99, 100, 119} {
		if due, ok := impl.DueTests(exampleGrips(), day); ok || len(due) != 0 {
			t.Errorf("DueTests on %d = %v, %v", day, due, ok)
		}
	}
	early, late, due := grip(0, 1, 0, 0, 50), grip(0, 1, 0, 0, 51), grip(0, 1, 11, 5000, 51)
	for _, list := range [][]impl.Grip{{late}, {due}, {late, early, early}, {early, late, early}, {early, early, late}, {early, early, due}, {due, early}} {
		for i := range list {
			list[i].Cabin = i + 1
		}
		if n, ok := impl.DueTests(list, 50); ok || len(n) != 0 {
			t.Errorf("DueTests(%v, 50) = %v, %v", list, n, ok)
		}
		if _, ok := impl.DueTests(list, 51); !ok {
			t.Errorf("DueTests(%v, 51) fails", list)
		}
	}
	for _, day := range wrongDays() {
		for _, list := range [][]impl.Grip{nil, {grip(5, 900, 0, 0, 0)}, exampleGrips()} {
			if n, ok := impl.DueTests(list, day); ok || len(n) != 0 {
				t.Errorf("DueTests(%v, %d) = %v, %v", list, day, n, ok)
			}
		}
	}
	for _, day := range []int{0, 9999} {
		if n, ok := impl.DueTests(nil, day); !ok || len(n) != 0 {
			t.Errorf("DueTests of none on %d = %v, %v", day, n, ok)
		}
	}
}

func TestDueTestsOfManyLists(t *testing.T) {
	due, rest, fails := 0, 0, 0
	eachGrips(func(list []impl.Grip) {
		latest := 0
		for _, g := range list {
			latest = max(latest, g.Tested)
		}
		for _, day := range []int{0, latest - 1, latest, latest + 1, latest + 90, latest + 91, 592, 9998, 9999, 10000} {
			n, ok := impl.DueTests(list, day)
			if wantOk := latest <= day && 0 <= day && day <= 9999; ok != wantOk || !ok && len(n) != 0 {
				t.Fatalf("DueTests(%v, %d) = %v, %v", list, day, n, ok)
			}
			if !ok {
				fails++
				continue
			}
			want := []int{}
			for _, g := range list {
				if g.Slip >= 11 || g.Opened > 4999 || g.Tested+91 <= day {
					want = append(want, g.Cabin)
				}
			}
			if !slices.Equal(n, want) {
				t.Fatalf("DueTests(%v, %d) = %v, not %v", list, day, n, want)
			}
			due, rest = due+len(want), rest+len(list)-len(want)
		}
	})
	if due < 10000 || rest < 5000 || fails < 1000 {
		t.Errorf("only %d must be tested, %d not, and %d fail", due, rest, fails)
	}
}

func TestWeakestGripValues(t *testing.T) {
	cases := []struct {
		list []impl.Grip
		want int
	}{
		{exampleGrips(), 40}, {exampleGrips()[:2], 3}, {exampleGrips()[:1], 1}, {exampleGrips()[:4], 4}, {exampleGrips()[5:], 99}, {mostGrips(), 9},
		{[]impl.Grip{grip(1, 825, 41, 0, 0), grip(2, 825, 41, 99999, 9999)}, 1}, {[]impl.Grip{grip(1, 825, 40, 0, 0), grip(2, 825, 41, 0, 0), grip(3, 825, 41, 0, 0)}, 2},
		// The Force counts first: one of 99 millimeters is not weaker if it presses more.
		{[]impl.Grip{grip(1, 825, 99, 0, 0), grip(2, 824, 0, 0, 0)}, 2}, {[]impl.Grip{grip(1, 824, 0, 0, 0), grip(2, 825, 99, 0, 0)}, 1},
		{[]impl.Grip{grip(7, 0, 0, 0, 0), grip(8, 0, 0, 0, 0), grip(9, 0, 0, 0, 0)}, 7}, {[]impl.Grip{grip(99, 5000, 0, 0, 0)}, 99},
	}
	for _, c := range cases {
		if n, ok := impl.WeakestGrip(c.list); !ok || n != c.want {
			t.Errorf("WeakestGrip(%v) = %d, %v, not %d", c.list, n, ok, c.want)
		}
	}
	for _, list := range [][]impl.Grip{nil, {}, exampleGrips()[:0]} {
		if n, ok := impl.WeakestGrip(list); ok || n != 0 {
			t.Errorf("WeakestGrip of none = %d, %v", n, ok)
		}
	}
}

func TestWeakestGripOfManyLists(t *testing.T) {
	bySlip, byCabin := 0, 0
	eachGrips(func(list []impl.Grip) {
		var weakest impl.Grip
		for i := len(list) - 1; i >= 0; i-- {
			g := list[i]
			if i == len(list)-1 || g.Force < weakest.Force {
				weakest = g
				continue
			}
			if g.Force == weakest.Force && g.Slip > weakest.Slip {
				bySlip++
				weakest = g
			} else if g.Force == weakest.Force && g.Slip == weakest.Slip {
				byCabin++
				weakest = g
			}
		}
		if n, ok := impl.WeakestGrip(list); ok != (len(list) > 0) || n != weakest.Cabin {
			t.Fatalf("WeakestGrip(%v) = %d, %v, not %d", list, n, ok, weakest.Cabin)
		}
	})
	if bySlip < 300 || byCabin < 300 {
		t.Errorf("only %d are the weakest by Slip, and %d by Cabin", bySlip, byCabin)
	}
}

func TestAllHoldValues(t *testing.T) {
	two := []impl.Grip{grip(1, 825, 0, 0, 100), grip(3, 825, 41, 0, 100)}
	cases := []struct {
		list  []impl.Grip
		loads []int
		slope int
		want  []int
	}{
		{two, []int{800, 800}, 10, []int{3}}, {two, []int{800, 800}, 0, []int{3}}, {two, []int{800, 100}, 35, []int{3}}, {two, []int{800, 100}, 36, []int{1, 3}}, {two, []int{801, 100}, 35, []int{1, 3}},
		{exampleGrips(), []int{100, 100, 100, 100, 100, 100}, 0, []int{3, 99}}, {exampleGrips(), []int{800, 100, 600, 4000, 610, 100}, 33, []int{3, 99}}, {exampleGrips(), []int{800, 100, 610, 4000, 599, 100}, 34, []int{3, 4, 99}},
		{exampleGrips(), []int{800, 100, 580, 4000, 580, 100}, 35, []int{3, 99}}, {exampleGrips(), []int{801, 4000, 582, 4000, 583, 4000}, 35, []int{1, 3, 40, 99}},
		{exampleGrips(), []int{4000, 4000, 4000, 4000, 4000, 4000}, 42, []int{1, 3, 4, 40, 99}}, {exampleGrips(), []int{4000, 4000, 4000, 4000, 4000, 4000}, 43, []int{1, 3, 4, 9, 40, 99}},
		{exampleGrips()[3:5], []int{4000, 100}, 42, nil}, {nil, nil, 0, nil}, {nil, []int{}, 100, nil}, {[]impl.Grip{}, nil, 35, nil},
	}
	for _, c := range cases {
		if n, ok := impl.AllHold(c.list, c.loads, c.slope); !ok || !slices.Equal(n, c.want) {
			t.Errorf("AllHold(%v, %v, %d) = %v, %v, not %v", c.list, c.loads, c.slope, n, ok, c.want)
		}
	}
}

func TestAllHoldFails(t *testing.T) {
	two := []impl.Grip{grip(1, 825, 0, 0, 100), grip(3, 825, 41, 0, 100)}
	for _, loads := range [][]int{nil, {}, {800}, {800, 800, 800}, make([]int, 100000), {100, 100, 0}} {
		if n, ok := impl.AllHold(two, loads, 10); ok || len(n) != 0 {
			t.Errorf("AllHold of %d loads = %v, %v", len(loads), n, ok)
		}
	}
	for _, load := range wrongLoads() {
		for _, loads := range [][]int{{load, 800}, {800, load}, {load, load}} {
			if n, ok := impl.AllHold(two, loads, 0); ok || len(n) != 0 {
				t.Errorf("AllHold(%v) = %v, %v", loads, n, ok)
			}
		}
		if n, ok := impl.AllHold(nil, []int{load}, 0); ok || len(n) != 0 {
			t.Errorf("AllHold of no Grips, [%d] = %v, %v", load, n, ok)
		}
	}
	for _, slope := range wrongSlopes() {
		for _, list := range [][]impl.Grip{two, nil} {
			if n, ok := impl.AllHold(list, loadsFor(list, 800), slope); ok || len(n) != 0 {
				t.Errorf("AllHold(%v) on %d = %v, %v", list, slope, n, ok)
			}
		}
	}
	if n, ok := impl.AllHold(nil, []int{800}, 10); ok || len(n) != 0 {
		t.Errorf("AllHold of one load for none = %v, %v", n, ok)
	}
}

// TestAllHoldOfManyLists gives many Grips the greatest load that they just hold, and one more.
func TestAllHoldOfManyLists(t *testing.T) {
	holds, weak := 0, 0
	eachGrips(func(list []impl.Grip) {
		for _, slope := range []int{0, 1, 33, 35, 99, 100} {
			loads, want := []int{}, []int{}
			for i, g := range list {
				load := 4000
				if slope > 0 {
					load = 100000 * (g.Force / 3) / (981 * slope)
				}
				load = min(max(load+i%2, 100), 4000)
				loads = append(loads, load)
				if g.Slip > 40 || !holdsExactly(g.Force, load, slope) {
					want = append(want, g.Cabin)
				}
			}
			if n, ok := impl.AllHold(list, loads, slope); !ok || !slices.Equal(n, want) {
				t.Fatalf("AllHold(%v, %v, %d) = %v, %v, not %v", list, loads, slope, n, ok, want)
			}
			holds, weak = holds+len(list)-len(want), weak+len(want)
		}
	})
	if holds < 5000 || weak < 5000 {
		t.Errorf("only %d hold, and %d do not", holds, weak)
	}
}

// gripResults returns the results of all functions of the chapter about lists as text. It fails the
// test if one of them succeeds for an invalid list, or returns a result beside false that is not
// zero.
func gripResults(t *testing.T, list []impl.Grip, loads []int, n int, m int, slope int) string {
	t.Helper()
	valid := impl.AreGrips(list)
	opened, openedOk := impl.OpenGrip(list, n, m)
	tested, testedOk := impl.TestGrip(list, n, m, slope)
	due, dueOk := impl.DueTests(list, m)
	weakest, weakestOk := impl.WeakestGrip(list)
	weak, weakOk := impl.AllHold(list, loads, slope)
	if weakestOk != (valid && len(list) > 0) || !valid && (openedOk || testedOk || dueOk || weakOk) {
		t.Fatalf("%.300s, %d, %d, %d: valid is %v, and a function returns something else", fmt.Sprint(list), n, m, slope, valid)
	}
	if !openedOk && len(opened) != 0 || !testedOk && len(tested) != 0 || !dueOk && len(due) != 0 || !weakestOk && weakest != 0 || !weakOk && len(weak) != 0 {
		t.Fatalf("%.300s, %d, %d, %d: a result beside false is not zero", fmt.Sprint(list), n, m, slope)
	}
	if openedOk && !impl.AreGrips(opened) || testedOk && !impl.AreGrips(tested) {
		t.Fatalf("%v, %d, %d, %d: a result is not valid: %v, %v", list, n, m, slope, opened, tested)
	}
	return fmt.Sprint(valid, opened, openedOk, tested, testedOk, due, dueOk, weakest, weakestOk, weak, weakOk)
}

// TestGripsReturnForAllArguments gives valid and invalid arguments to every function of the chapter,
// as parts of longer lists, and expects that nothing in these lists changes, that what stands behind
// them does not count, and that a second call returns the same.
func TestGripsReturnForAllArguments(t *testing.T) {
	behind := []impl.Grip{grip(99, 0, 99, 0, 0), grip(98, 1, 41, 99999, 9999), grip(math.MinInt, 0, -1, math.MaxInt, 1)}
	check := func(list []impl.Grip, load, n, m, slope int) {
		memory, loads := append(slices.Clone(list), behind...), append(loadsFor(list, load), 0, 100, math.MinInt)
		before, loadsBefore := slices.Clone(memory), slices.Clone(loads)
		first := gripResults(t, slices.Clone(list), loadsFor(list, load), n, m, slope)
		if second := gripResults(t, memory[:len(list)], loads[:len(list)], n, m, slope); second != first {
			t.Fatalf("%.300s and then %.300s", first, second)
		}
		if !slices.Equal(memory, before) || !slices.Equal(loads, loadsBefore) {
			t.Fatalf("the argument %.300s is changed", fmt.Sprint(list, loads))
		}
	}
	for seed := range 500 {
		list := gripsOf(seed)
		for _, m := range []int{0, 1, 50, 99, 9999} {
			check(list, 100+7*seed, 1+seed%50, m, seed%101)
			if len(list) > 0 {
				check(list, 100+7*seed, list[seed%len(list)].Cabin, m, seed%101)
			}
		}
	}
	for _, list := range append(invalidGripLists(), exampleGrips(), mostGrips(), nil) {
		for _, n := range append(extremes(), 0, 1, 2, 9) {
			check(list, 800, n, 1, 35)
			check(list, 800, 1, n, 35)
			check(list, 800, 1, 1, n)
			check(list, n, n, n, n)
		}
	}
	for _, n := range extremes() {
		for _, m := range append(extremes(), 1, 8) {
			g := grip(n, m, n, m, n)
			check([]impl.Grip{g}, 800, n, m, m)
			pull, pullOk := impl.PullOf(n, m)
			holds, holdsOk := impl.DoesHold(g, m, n)
			steepest, steepestOk := impl.SteepestHeld(g, m)
			if pullOk || holdsOk || steepestOk || holds || pull != 0 || steepest != 0 {
				t.Errorf("%+v: %d, %v, %v, %v, %d, %v", g, pull, pullOk, holds, holdsOk, steepest, steepestOk)
			}
		}
	}
}

// TestGripsReturnNewMemory changes the results, and behind their length, and expects that neither
// the argument nor a later result changes with them.
func TestGripsReturnNewMemory(t *testing.T) {
	memory := exampleGrips()
	before := slices.Clone(memory)
	open := func(list []impl.Grip) ([]impl.Grip, bool) { return impl.OpenGrip(list, 1, 5) }
	test := func(list []impl.Grip) ([]impl.Grip, bool) { return impl.TestGrip(list, 1, 900, 120) }
	for count := 1; count <= len(memory); count++ {
		list := memory[:count]
		for _, f := range []func([]impl.Grip) ([]impl.Grip, bool){open, test} {
			one, ok := f(list)
			two, _ := f(list)
			kept := slices.Clone(two)
			if !ok || !slices.Equal(one, two) {
				t.Fatalf("%v: %v, %v and then %v", list, one, ok, two)
			}
			_ = append(one[:1], grip(77, 7, 7, 7, 7), grip(78, 8, 8, 8, 8))
			clear(one)
			if !slices.Equal(memory, before) || !slices.Equal(two, kept) {
				t.Errorf("a result of %v shares memory", list)
			}
		}
		loads := loadsFor(list, 4000)
		loadsBefore := slices.Clone(loads)
		due := func() ([]int, bool) { return impl.DueTests(list, 9999) }
		weak := func() ([]int, bool) { return impl.AllHold(list, loads, 100) }
		for _, f := range []func() ([]int, bool){due, weak} {
			one, ok := f()
			two, _ := f()
			kept := slices.Clone(two)
			if !ok || len(one) != count || !slices.Equal(one, two) {
				t.Fatalf("%v: %v, %v and then %v", list, one, ok, two)
			}
			clear(one)
			if !slices.Equal(memory, before) || !slices.Equal(two, kept) || !slices.Equal(loads, loadsBefore) {
				t.Errorf("a result of %v shares memory", list)
			}
		}
	}
}
