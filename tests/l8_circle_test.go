package tests

import (
	"fmt"
	"math"
	"slices"
	"testing"

	"loop.example/g00935/impl"
)

func circle(length, speed int, starts ...int) impl.Circle {
	return impl.Circle{Length: length, Speed: speed, Starts: starts}
}

// exampleCircle has one gap that is greater than the others, which are equal.
func exampleCircle() impl.Circle {
	return circle(100, 10, 0, 40, 70)
}

// fullCircle has a cabin at each meter of the shortest ring.
func fullCircle() impl.Circle {
	return circle(10, 7, 0, 1, 2, 3, 4, 5, 6, 7, 8, 9)
}

// mostOnRing has as many cabins as a ring can have, on the longest one, and the fastest.
func mostOnRing() impl.Circle {
	c := circle(impl.MaxRing, 100)
	for i := range impl.MaxOnRing {
		c.Starts = append(c.Starts, 1+i*362)
	}
	c.Starts[0], c.Starts[impl.MaxOnRing-1] = 0, impl.MaxRing-1
	return c
}

// circleOf returns a valid Circle: often a short one, where gaps are often equal, or one with few
// cabins.
func circleOf(seed int) impl.Circle {
	next := numbers(seed)
	length := []int{10, 11, 12, 13, 20, 10 + next(91), 10 + next(3991), impl.MaxRing}[next(8)]
	c := circle(length, []int{1, 3, 10, 1 + next(100), 100}[next(5)])
	for range []int{0, 1, 1, 2, 3, next(impl.MaxOnRing + 1), impl.MaxOnRing}[next(7)] {
		if start := next(length); !slices.Contains(c.Starts, start) {
			c.Starts = append(c.Starts, start)
		}
	}
	slices.Sort(c.Starts)
	return c
}

// eachCircle calls f with a valid Circle, many times; among them is every one of 12 meters.
func eachCircle(f func(c impl.Circle)) {
	for _, c := range []impl.Circle{exampleCircle(), fullCircle(), mostOnRing(), circle(10, 1), circle(impl.MaxRing, 100)} {
		f(c)
	}
	for set := range 1 << 12 {
		c := circle(12, 1+set%100)
		for start := range 12 {
			if set>>start&1 > 0 {
				c.Starts = append(c.Starts, start)
			}
		}
		f(c)
	}
	// One cabin alone, wherever it is.
	for start := range 23 {
		f(circle(23, 5, start))
	}
	for seed := range 2000 {
		f(circleOf(seed))
	}
}

// invalidCircles returns Circles that break one rule each.
func invalidCircles() []impl.Circle {
	thirteen := circle(100, 10)
	for start := range impl.MaxOnRing + 1 {
		thirteen.Starts = append(thirteen.Starts, start)
	}
	list := []impl.Circle{
		{}, thirteen, circle(100, 10, make([]int, 100000)...), circle(100, 10, 5, 5), circle(100, 10, 5, 4), circle(100, 10, 0, 0), circle(100, 10, 1, 2, 2), circle(100, 10, 1, 3, 2), circle(100, 10, 3, 1, 2),
		circle(100, 10, 100), circle(100, 10, 99, 100), circle(10, 10, 0, 10), circle(100, 10, 101), circle(impl.MaxRing, 10, impl.MaxRing), circle(100, 10, -1), circle(100, 10, -1, 5),
	}
	for _, n := range append(extremes(), -10, 0, 9, 5, impl.MaxRing+1) {
		list = append(list, circle(n, 10), circle(n, 10, 0), circle(n, 10, 0, 4))
	}
	for _, n := range append(extremes(), -10, 0, 101) {
		list = append(list, circle(100, n), circle(100, n, 0), circle(100, n, 0, 4))
	}
	for _, n := range extremes() {
		list = append(list, circle(100, 10, n), circle(100, 10, 5, n), circle(100, 10, n, 5), circle(n, n, n))
	}
	return list
}

// wrongTimes are numbers that are no time.
func wrongTimes() []int {
	return append(extremes(), -2, 100001, 100002, 1000000)
}

// sameCircle reports whether two Circles are equal.
func sameCircle(a, b impl.Circle) bool {
	return a.Length == b.Length && a.Speed == b.Speed && slices.Equal(a.Starts, b.Starts)
}

// copyOf returns a Circle that shares no memory with c.
func copyOf(c impl.Circle) impl.Circle {
	return circle(c.Length, c.Speed, slices.Clone(c.Starts)...)
}

// isThere reports whether a cabin is at a place in meters when the rope went a way in decimeters.
func isThere(c impl.Circle, cabin, place, way int) bool {
	return (10*c.Starts[cabin]+way)%(10*c.Length) == 10*place
}

// metersToNext goes from a cabin meter by meter around the ring until there is a cabin.
func metersToNext(c impl.Circle, cabin int) int {
	for meters := 1; ; meters++ {
		if slices.Contains(c.Starts, (c.Starts[cabin]+meters)%c.Length) {
			return meters
		}
	}
}

func TestIsCircleAcceptsUpToTheLimits(t *testing.T) {
	for _, c := range []impl.Circle{
		circle(10, 1), circle(10, 100, 9), circle(impl.MaxRing, 1, 0), circle(impl.MaxRing, 100, 0, 3999), circle(100, 10, 98, 99), {Length: 10, Speed: 1, Starts: []int{}}, exampleCircle(), fullCircle(), mostOnRing(),
	} {
		if !impl.IsCircle(c) {
			t.Errorf("%v is not valid", c)
		}
	}
	eachCircle(func(c impl.Circle) {
		if !impl.IsCircle(c) {
			t.Fatalf("%v is not valid", c)
		}
	})
	for _, c := range invalidCircles() {
		if impl.IsCircle(c) {
			t.Errorf("%.300s is valid", fmt.Sprint(c))
		}
	}
	if impl.MaxRing != 4000 || impl.MaxOnRing != 12 {
		t.Errorf("MaxRing is %d, MaxOnRing %d", impl.MaxRing, impl.MaxOnRing)
	}
}

func TestPlacesAtValues(t *testing.T) {
	cases := []struct {
		c    impl.Circle
		time int
		want []int
	}{
		{exampleCircle(), 35, []int{350, 750, 50}}, {exampleCircle(), 0, []int{0, 400, 700}}, {exampleCircle(), 29, []int{290, 690, 990}}, {exampleCircle(), 30, []int{300, 700, 0}}, {exampleCircle(), 100, []int{0, 400, 700}}, {exampleCircle(), 100000, []int{0, 400, 700}},
		{circle(100, 3, 99), 3, []int{999}}, {circle(100, 3, 99), 4, []int{2}}, {circle(10, 100, 4), 99999, []int{40}}, {circle(4000, 100, 1, 3999), 100000, []int{10, 39990}}, {circle(13, 7, 0), 100000, []int{80}},
		{circle(10, 1, 0, 9), 1, []int{1, 91}}, {circle(10, 1, 0, 9), 10, []int{10, 0}}, {circle(10, 1), 5, nil},
	}
	for _, c := range cases {
		if places, ok := impl.PlacesAt(c.c, c.time); !ok || !slices.Equal(places, c.want) {
			t.Errorf("PlacesAt(%v, %d) = %v, %v, not %v", c.c, c.time, places, ok, c.want)
		}
	}
	for _, c := range []impl.Circle{exampleCircle(), circle(10, 1)} {
		for _, time := range wrongTimes() {
			if places, ok := impl.PlacesAt(c, time); ok || len(places) != 0 {
				t.Errorf("PlacesAt(%v, %d) = %v, %v", c, time, places, ok)
			}
		}
	}
}

// TestPlacesAtSecondBySecond moves the cabins by Speed in each second, and back by the ring when
// they have gone around it.
func TestPlacesAtSecondBySecond(t *testing.T) {
	for seed := range 100 {
		c := circleOf(seed)
		want := []int{}
		for _, start := range c.Starts {
			want = append(want, 10*start)
		}
		for time := range 500 {
			if places, ok := impl.PlacesAt(c, time); !ok || !slices.Equal(places, want) {
				t.Fatalf("PlacesAt(%v, %d) = %v, %v, not %v", c, time, places, ok, want)
			}
			for i := range want {
				// The fastest rope goes once around the shortest ring in a second.
				if want[i] += c.Speed; want[i] >= 10*c.Length {
					want[i] -= 10 * c.Length
				}
			}
		}
	}
}

func TestGapsOfValues(t *testing.T) {
	cases := []struct {
		c        impl.Circle
		want     []int
		smallest int
	}{
		{exampleCircle(), []int{40, 30, 30}, 30}, {fullCircle(), []int{1, 1, 1, 1, 1, 1, 1, 1, 1, 1}, 1}, {circle(100, 10, 10, 20), []int{10, 90}, 10}, {circle(100, 10, 10, 95), []int{85, 15}, 15},
		{circle(100, 10, 0, 99), []int{99, 1}, 1}, {circle(100, 1, 0, 50), []int{50, 50}, 50}, {circle(11, 1, 2, 5, 9), []int{3, 4, 4}, 3}, {circle(4000, 1, 1, 3999), []int{3998, 2}, 2},
		// One cabin alone has the whole ring behind it.
		{circle(100, 10, 0), []int{100}, 100}, {circle(100, 10, 37), []int{100}, 100}, {circle(100, 10, 99), []int{100}, 100}, {circle(4000, 10, 3999), []int{4000}, 4000}, {circle(10, 100, 9), []int{10}, 10},
	}
	for _, c := range cases {
		if gaps, ok := impl.GapsOf(c.c); !ok || !slices.Equal(gaps, c.want) {
			t.Errorf("GapsOf(%v) = %v, %v, not %v", c.c, gaps, ok, c.want)
		}
		if n, ok := impl.SmallestGap(c.c); !ok || n != c.smallest {
			t.Errorf("SmallestGap(%v) = %d, %v, not %d", c.c, n, ok, c.smallest)
		}
	}
	for _, c := range []impl.Circle{circle(10, 1), circle(100, 10), {Length: 100, Speed: 10, Starts: []int{}}, circle(100, 10, 1, 2)} {
		c.Starts = c.Starts[:0]
		if gaps, ok := impl.GapsOf(c); !ok || len(gaps) != 0 {
			t.Errorf("GapsOf(%v) = %v, %v", c, gaps, ok)
		}
		if n, ok := impl.SmallestGap(c); ok || n != 0 {
			t.Errorf("SmallestGap(%v) = %d, %v", c, n, ok)
		}
	}
}

// gapsAre fails the test unless the gaps of a Circle are the meters from each cabin to the next
// one, together the ring, and so at all times, which the places of the cabins tell.
func gapsAre(t *testing.T, c impl.Circle) {
	t.Helper()
	gaps, ok := impl.GapsOf(c)
	smallest, smallestOk := impl.SmallestGap(c)
	if !ok || len(gaps) != len(c.Starts) || smallestOk != (len(gaps) > 0) {
		t.Fatalf("GapsOf(%v) = %v, %v, and the smallest is %d, %v", c, gaps, ok, smallest, smallestOk)
	}
	sum, least := 0, math.MaxInt
	for i, gap := range gaps {
		if gap != metersToNext(c, i) {
			t.Fatalf("GapsOf(%v) = %v, not %d behind %d", c, gaps, metersToNext(c, i), i)
		}
		sum, least = sum+gap, min(least, gap)
	}
	if len(gaps) > 0 && (sum != c.Length || smallest != least) {
		t.Fatalf("GapsOf(%v) = %v, together %d, and the smallest is %d", c, gaps, sum, smallest)
	}
	for _, time := range []int{0, 1, 7, 99999, 100000} {
		places, ok := impl.PlacesAt(c, time)
		if !ok || len(places) != len(gaps) {
			t.Fatalf("PlacesAt(%v, %d) = %v, %v", c, time, places, ok)
		}
		for i, gap := range gaps {
			if next := places[(i+1)%len(places)]; (places[i]+10*gap)%(10*c.Length) != next {
				t.Fatalf("PlacesAt(%v, %d) = %v, and the gaps are %v", c, time, places, gaps)
			}
		}
	}
}

func TestAllGapsTogetherAreTheRing(t *testing.T) {
	alone, wrapped := 0, 0
	eachCircle(func(c impl.Circle) {
		gapsAre(t, c)
		if len(c.Starts) == 1 {
			alone++
		}
		if len(c.Starts) > 1 && c.Starts[0] > 0 {
			wrapped++
		}
		if added, ok := impl.AddCabin(c, 1); ok {
			gapsAre(t, added)
		}
		for cabin := range c.Starts {
			rest, ok := impl.RemoveCabin(c, cabin)
			if !ok {
				t.Fatalf("RemoveCabin(%v, %d) fails", c, cabin)
			}
			gapsAre(t, rest)
		}
		if even, ok := impl.EvenStarts(c.Length, c.Speed, len(c.Starts)); ok {
			gapsAre(t, even)
		}
	})
	if alone < 100 || wrapped < 1000 {
		t.Errorf("only %d cabins are alone, and %d rings go on behind the start", alone, wrapped)
	}
}

func TestPassesByValues(t *testing.T) {
	cases := []struct {
		c                 impl.Circle
		place, time, want int
	}{
		{exampleCircle(), 10, 100, 3}, {exampleCircle(), 0, 0, 1}, {exampleCircle(), 40, 0, 1}, {exampleCircle(), 70, 0, 1}, {exampleCircle(), 41, 0, 0}, {exampleCircle(), 99, 0, 0}, {exampleCircle(), 1, 0, 0},
		// The cabin 2 is there after 30 seconds, the cabin 1 after 60, and the cabin 0 again after 100.
		{exampleCircle(), 0, 29, 1}, {exampleCircle(), 0, 30, 2}, {exampleCircle(), 0, 59, 2}, {exampleCircle(), 0, 60, 3}, {exampleCircle(), 0, 99, 3}, {exampleCircle(), 0, 100, 4}, {exampleCircle(), 0, 130, 5}, {exampleCircle(), 0, 100000, 3001},
		// A moment between two seconds counts from the second one of them on.
		{circle(100, 7, 0), 1, 1, 0}, {circle(100, 7, 0), 1, 2, 1}, {circle(100, 7, 0), 0, 142, 1}, {circle(100, 7, 0), 0, 143, 2},
		// One cabin alone comes again and again; the fastest one with each second on the shortest ring.
		{circle(10, 100, 4), 4, 0, 1}, {circle(10, 100, 4), 4, 1, 2}, {circle(10, 100, 4), 4, 100000, 100001}, {circle(10, 100, 4), 3, 0, 0}, {circle(10, 100, 4), 3, 1, 1}, {circle(10, 100, 4), 5, 100000, 100000},
		{circle(4000, 1, 0), 3999, 39989, 0}, {circle(4000, 1, 0), 3999, 39990, 1}, {circle(4000, 1, 0), 0, 40000, 2}, {circle(4000, 1, 1), 0, 39989, 0}, {circle(4000, 1, 1), 0, 39990, 1}, {circle(4000, 1, 1), 0, 79990, 2}, {circle(4000, 1, 0), 0, 100000, 3},
		{fullCircle(), 5, 0, 1}, {fullCircle(), 5, 1, 1}, {fullCircle(), 5, 2, 2}, {fullCircle(), 9, 100000, 70001}, {circle(100, 10), 0, 0, 0}, {circle(100, 10), 99, 100000, 0},
	}
	for _, c := range cases {
		if n, ok := impl.PassesBy(c.c, c.place, c.time); !ok || n != c.want {
			t.Errorf("PassesBy(%v, %d, %d) = %d, %v, not %d", c.c, c.place, c.time, n, ok, c.want)
		}
	}
}

// TestPassesByDecimeterByDecimeter counts the ways up to that of a time behind which a cabin is at
// the place.
func TestPassesByDecimeterByDecimeter(t *testing.T) {
	passes := 0
	for seed := range 400 {
		c := circleOf(seed)
		place := numbers(seed + 1)(c.Length)
		if len(c.Starts) > 0 && seed%3 == 0 {
			place = c.Starts[seed%len(c.Starts)]
		}
		want, way := 0, -1
		for time := range 300 {
			for way < c.Speed*time {
				way++
				for cabin := range c.Starts {
					if isThere(c, cabin, place, way) {
						want++
					}
				}
			}
			if n, ok := impl.PassesBy(c, place, time); !ok || n != want {
				t.Fatalf("PassesBy(%v, %d, %d) = %d, %v, not %d", c, place, time, n, ok, want)
			}
		}
		passes += want
	}
	if passes < 10000 {
		t.Errorf("only %d cabins pass", passes)
	}
}

func TestNextPassValues(t *testing.T) {
	cases := []struct {
		c                          impl.Circle
		place, time, cabin, moment int
	}{
		{exampleCircle(), 10, 20, 2, 40}, {exampleCircle(), 0, 0, 0, 0}, {exampleCircle(), 40, 0, 1, 0}, {exampleCircle(), 70, 0, 2, 0}, {exampleCircle(), 1, 0, 0, 1}, {exampleCircle(), 99, 0, 2, 29}, {exampleCircle(), 39, 0, 0, 39}, {exampleCircle(), 41, 0, 1, 1},
		// At the time itself counts, one second later no longer.
		{exampleCircle(), 0, 30, 2, 30}, {exampleCircle(), 0, 31, 1, 60}, {exampleCircle(), 0, 60, 1, 60}, {exampleCircle(), 0, 61, 0, 100}, {exampleCircle(), 0, 100, 0, 100}, {exampleCircle(), 0, 101, 2, 130},
		// One cabin alone: just there, just past, and with moments between two seconds.
		{circle(100, 10, 50), 50, 0, 0, 0}, {circle(100, 10, 50), 50, 1, 0, 100}, {circle(100, 10, 50), 49, 0, 0, 99}, {circle(100, 10, 50), 51, 0, 0, 1}, {circle(100, 7, 0), 1, 0, 0, 2}, {circle(100, 7, 0), 1, 1, 0, 2}, {circle(100, 7, 0), 1, 2, 0, 145}, {circle(100, 7, 0), 7, 0, 0, 10}, {circle(100, 7, 0), 7, 10, 0, 10}, {circle(100, 7, 0), 7, 11, 0, 153},
		{circle(10, 100, 3), 2, 0, 0, 1}, {circle(10, 100, 3), 3, 5, 0, 5}, {circle(10, 100, 3), 4, 5, 0, 6}, {circle(4000, 1, 1), 0, 0, 0, 39990}, {circle(4000, 1, 0), 1, 0, 0, 10},
		// Several cabins come in the same second: the one that comes first.
		{fullCircle(), 5, 1, 4, 2}, {fullCircle(), 5, 0, 5, 0}, {fullCircle(), 0, 1, 9, 2}, {circle(100, 100, 0, 1, 2, 3), 5, 0, 3, 1}, {circle(100, 100, 0, 1, 2, 3), 12, 0, 3, 1}, {circle(100, 100, 0, 1, 2, 3), 13, 0, 3, 1}, {circle(100, 100, 0, 1, 2, 3), 14, 0, 3, 2}, {circle(10, 100, 0, 9), 5, 0, 0, 1}, {circle(10, 100, 0, 9), 9, 3, 1, 3}, {circle(10, 100, 1, 9), 0, 3, 1, 4},
		// A time can be the last one; the moment comes behind it.
		{exampleCircle(), 0, 100000, 0, 100000}, {exampleCircle(), 0, 99999, 0, 100000}, {exampleCircle(), 1, 100000, 0, 100001}, {circle(4000, 1, 0), 1999, 100000, 0, 139990},
	}
	for _, c := range cases {
		if cabin, moment, ok := impl.NextPass(c.c, c.place, c.time); !ok || cabin != c.cabin || moment != c.moment {
			t.Errorf("NextPass(%v, %d, %d) = %d, %d, %v, not %d, %d", c.c, c.place, c.time, cabin, moment, ok, c.cabin, c.moment)
		}
	}
}

// nextOf goes on from a time decimeter by decimeter until a cabin is at the place, and then to the
// next whole second.
func nextOf(c impl.Circle, place, time int) (int, int) {
	for way := c.Speed * time; ; way++ {
		for cabin := range c.Starts {
			if isThere(c, cabin, place, way) {
				for c.Speed*time < way {
					time++
				}
				return cabin, time
			}
		}
	}
}

func TestNextPassDecimeterByDecimeter(t *testing.T) {
	atOnce, later := 0, 0
	for seed := range 3000 {
		c := circleOf(seed)
		if len(c.Starts) == 0 {
			continue
		}
		next := numbers(seed + 1)
		place := []int{next(c.Length), c.Starts[next(len(c.Starts))], 0, c.Length - 1}[next(4)]
		for _, time := range []int{0, 1, next(1000), next(100001)} {
			wantCabin, wantMoment := nextOf(c, place, time)
			cabin, moment, ok := impl.NextPass(c, place, time)
			if !ok || cabin != wantCabin || moment != wantMoment {
				t.Fatalf("NextPass(%v, %d, %d) = %d, %d, %v, not %d, %d", c, place, time, cabin, moment, ok, wantCabin, wantMoment)
			}
			if moment == time {
				atOnce++
			} else {
				later++
			}
		}
	}
	if atOnce < 500 || later < 5000 {
		t.Errorf("only %d come at once, and %d later", atOnce, later)
	}
}

// TestNextPassAndPassesBy expects that no cabin comes between a time and the next moment.
func TestNextPassAndPassesBy(t *testing.T) {
	for seed := range 3000 {
		c := circleOf(seed)
		if len(c.Starts) == 0 {
			continue
		}
		place := numbers(seed + 2)(c.Length)
		_, moment, ok := impl.NextPass(c, place, 0)
		n, nOk := impl.PassesBy(c, place, moment)
		before := 0
		if moment > 0 {
			before, _ = impl.PassesBy(c, place, moment-1)
		}
		if !ok || !nOk || n == 0 || before != 0 {
			t.Fatalf("%v: the first cabin is at %d at %d, %v, but up to there come %d, %v, and a second before %d", c, place, moment, ok, n, nOk, before)
		}
	}
}

func TestPassesByAndNextPassFail(t *testing.T) {
	check := func(c impl.Circle, place, time int) {
		if n, ok := impl.PassesBy(c, place, time); ok || n != 0 {
			t.Errorf("PassesBy(%v, %d, %d) = %d, %v", c, place, time, n, ok)
		}
		if cabin, moment, ok := impl.NextPass(c, place, time); ok || cabin|moment != 0 {
			t.Errorf("NextPass(%v, %d, %d) = %d, %d, %v", c, place, time, cabin, moment, ok)
		}
	}
	for _, c := range []impl.Circle{exampleCircle(), fullCircle(), mostOnRing(), circle(100, 10, 50), circle(100, 10)} {
		for _, time := range wrongTimes() {
			check(c, 0, time)
			check(c, c.Length-1, time)
		}
		for _, place := range append(extremes(), -2, c.Length, c.Length+1, 10*c.Length) {
			check(c, place, 0)
			check(c, place, 100000)
		}
	}
	for _, place := range []int{0, 50, 99} {
		if cabin, moment, ok := impl.NextPass(circle(100, 10), place, 5); ok || cabin|moment != 0 {
			t.Errorf("NextPass at %d without cabins = %d, %d, %v", place, cabin, moment, ok)
		}
	}
}

func TestRoundTime(t *testing.T) {
	cases := []struct{ length, speed, num, den int }{
		{100, 10, 100, 1}, {10, 1, 100, 1}, {10, 100, 1, 1}, {4000, 100, 400, 1}, {4000, 1, 40000, 1}, {100, 7, 1000, 7}, {10, 99, 100, 99}, {10, 8, 25, 2}, {13, 26, 5, 1}, {3999, 99, 13330, 33}, {11, 100, 11, 10}, {25, 100, 5, 2},
	}
	for _, c := range cases {
		for _, starts := range [][]int{nil, {0}, {4, 9}} {
			if num, den, ok := impl.RoundTime(circle(c.length, c.speed, starts...)); !ok || num != c.num || den != c.den {
				t.Errorf("RoundTime of %d meters with %d = %d, %d, %v, not %d, %d", c.length, c.speed, num, den, ok, c.num, c.den)
			}
		}
	}
	eachCircle(func(c impl.Circle) {
		if num, den, ok := impl.RoundTime(c); !ok || !isFraction(num, den, ratioOf(c.Speed, 10, c.Length)) {
			t.Fatalf("RoundTime(%v) = %d, %d, %v", c, num, den, ok)
		}
	})
}

func TestAddCabinValues(t *testing.T) {
	cases := []struct {
		c      impl.Circle
		gap    int
		starts []int
	}{
		{exampleCircle(), 20, []int{0, 20, 40, 70}}, {exampleCircle(), 1, []int{0, 20, 40, 70}}, {circle(100, 10, 0, 41, 71), 20, []int{0, 20, 41, 71}},
		// The first one of several greatest gaps.
		{circle(90, 10, 0, 30, 60), 15, []int{0, 15, 30, 60}}, {circle(90, 10, 0, 20, 55), 17, []int{0, 20, 37, 55}}, {circle(90, 10, 20, 40, 55), 1, []int{20, 40, 55, 82}},
		// Behind the last cabin: before the end of the ring, at its start, and behind it.
		{circle(100, 10, 0, 20), 20, []int{0, 20, 60}}, {circle(100, 10, 30, 60), 30, []int{30, 60, 95}}, {circle(100, 10, 40, 60), 20, []int{0, 40, 60}}, {circle(100, 10, 41, 60), 19, []int{0, 41, 60}}, {circle(100, 10, 42, 60), 18, []int{1, 42, 60}}, {circle(100, 10, 80, 99), 19, []int{39, 80, 99}},
		// One cabin alone: the middle of the whole ring.
		{circle(100, 10, 0), 50, []int{0, 50}}, {circle(100, 10, 49), 50, []int{49, 99}}, {circle(100, 10, 50), 50, []int{0, 50}}, {circle(100, 10, 99), 50, []int{49, 99}}, {circle(11, 10, 0), 5, []int{0, 5}}, {circle(11, 10, 5), 5, []int{5, 10}}, {circle(11, 10, 6), 5, []int{0, 6}}, {circle(11, 10, 10), 5, []int{4, 10}}, {circle(4000, 1, 3999), 2000, []int{1999, 3999}},
		// Without cabins.
		{circle(100, 10), 1, []int{0}}, {circle(100, 10), 100, []int{0}}, {circle(10, 10), 10, []int{0}}, {circle(4000, 10), 4000, []int{0}},
		{circle(10, 1, 0, 1, 2, 3, 4, 5, 6, 7, 8), 1, []int{0, 1, 2, 3, 4, 5, 6, 7, 8, 9}}, {circle(10, 1, 1, 2, 3, 4, 5, 6, 7, 8, 9), 1, []int{0, 1, 2, 3, 4, 5, 6, 7, 8, 9}}, {circle(14, 1, 0, 1, 2, 3, 4, 5, 6, 7, 8, 9, 10), 2, nil}, {circle(14, 1, 0, 1, 2, 3, 4, 5, 6, 7, 8, 9, 10), 1, []int{0, 1, 2, 3, 4, 5, 6, 7, 8, 9, 10, 12}},
		// A gap of the result would be less: one of the two new ones, or one that was there before.
		{exampleCircle(), 21, nil}, {circle(100, 10, 0, 41, 71), 21, nil}, {circle(100, 10, 0, 5), 6, nil}, {circle(100, 10, 0, 5), 5, []int{0, 5, 52}}, {circle(100, 10, 50), 51, nil}, {circle(11, 10, 0), 6, nil}, {circle(100, 10), 101, nil}, {circle(3999, 10), 4000, nil}, {circle(100, 10, 0, 99), 2, nil}, {circle(100, 10, 0, 99), 1, []int{0, 49, 99}},
		// There is no meter left, or one cabin too much.
		{fullCircle(), 1, nil}, {circle(11, 1, 0, 1, 2, 3, 4, 5, 6, 7, 8, 9, 10), 1, nil}, {mostOnRing(), 1, nil},
	}
	for _, c := range cases {
		added, ok := impl.AddCabin(c.c, c.gap)
		if want := circle(c.c.Length, c.c.Speed, c.starts...); c.starts != nil && (!ok || !sameCircle(added, want)) {
			t.Errorf("AddCabin(%v, %d) = %v, %v, not %v", c.c, c.gap, added, ok, want)
		}
		if c.starts == nil && (ok || !sameCircle(added, impl.Circle{})) {
			t.Errorf("AddCabin(%v, %d) = %v, %v", c.c, c.gap, added, ok)
		}
	}
	for _, gap := range append(extremes(), -2, 0, 4001, 4002) {
		for _, c := range []impl.Circle{exampleCircle(), circle(4000, 10), circle(100, 10, 5)} {
			if added, ok := impl.AddCabin(c, gap); ok || !sameCircle(added, impl.Circle{}) {
				t.Errorf("AddCabin(%v, %d) = %v, %v", c, gap, added, ok)
			}
		}
	}
}

// addedTo returns where a further cabin of a Circle stands, and the smallest gap with it, 0 if
// there is no place for it.
func addedTo(c impl.Circle) (int, int) {
	if len(c.Starts) == 0 {
		return 0, c.Length
	}
	behind, greatest, smallest := 0, 0, c.Length
	for cabin := range c.Starts {
		meters := metersToNext(c, cabin)
		smallest = min(smallest, meters)
		if meters > greatest {
			behind, greatest = cabin, meters
		}
	}
	place, rest := c.Starts[behind], greatest
	for rest-2 >= 0 {
		place, rest = place+1, rest-2
		if place == c.Length {
			place = 0
		}
	}
	if slices.Contains(c.Starts, place) || len(c.Starts) == impl.MaxOnRing {
		return 0, 0
	}
	return place, min(smallest, (greatest-rest)/2)
}

func TestAddCabinOfManyCircles(t *testing.T) {
	around, alone, close, full := 0, 0, 0, 0
	eachCircle(func(c impl.Circle) {
		place, smallest := addedTo(c)
		want := copyOf(c)
		want.Starts = append(want.Starts, place)
		slices.Sort(want.Starts)
		for _, gap := range []int{1, smallest - 1, smallest, smallest + 1, c.Length, 4000} {
			added, ok := impl.AddCabin(c, gap)
			if wantOk := 1 <= gap && gap <= smallest; ok != wantOk || ok && !sameCircle(added, want) || !ok && !sameCircle(added, impl.Circle{}) {
				t.Fatalf("AddCabin(%v, %d) = %v, %v, not %v, %v", c, gap, added, ok, want, wantOk)
			}
			switch {
			case ok && len(c.Starts) == 1:
				alone++
			case ok && len(c.Starts) > 0 && place < c.Starts[0]:
				around++
			case !ok && smallest > 0:
				close++
			case smallest == 0:
				full++
			}
		}
	})
	if around < 500 || alone < 500 || close < 5000 || full < 500 {
		t.Errorf("too few: %d around the ring, %d beside one alone, %d too close, %d without room", around, alone, close, full)
	}
}

// TestARingFillsUp adds cabins to an empty ring for as long as there is room.
func TestARingFillsUp(t *testing.T) {
	c := circle(1200, 30)
	for _, want := range [][]int{
		{0}, {0, 600}, {0, 300, 600}, {0, 300, 600, 900}, {0, 150, 300, 600, 900}, {0, 150, 300, 450, 600, 900}, {0, 150, 300, 450, 600, 750, 900}, {0, 150, 300, 450, 600, 750, 900, 1050}, {0, 75, 150, 300, 450, 600, 750, 900, 1050},
	} {
		added, ok := impl.AddCabin(c, 75)
		if !ok || !sameCircle(added, circle(1200, 30, want...)) {
			t.Fatalf("AddCabin(%v, 75) = %v, %v, not %v", c, added, ok, want)
		}
		if _, ok := impl.AddCabin(c, 151); ok != (len(want) < 5) {
			t.Errorf("AddCabin(%v, 151) returns %v", c, ok)
		}
		c = added
	}
	for range 3 {
		c, _ = impl.AddCabin(c, 75)
	}
	if added, ok := impl.AddCabin(c, 1); len(c.Starts) != impl.MaxOnRing || ok || !sameCircle(added, impl.Circle{}) {
		t.Errorf("AddCabin(%v, 1) = %v, %v", c, added, ok)
	}
}

func TestRemoveCabin(t *testing.T) {
	for _, c := range []struct {
		c      impl.Circle
		cabin  int
		starts []int
	}{
		{exampleCircle(), 0, []int{40, 70}}, {exampleCircle(), 1, []int{0, 70}}, {exampleCircle(), 2, []int{0, 40}}, {circle(100, 10, 37), 0, nil}, {circle(10, 7, 8, 9), 1, []int{8}},
	} {
		if rest, ok := impl.RemoveCabin(c.c, c.cabin); !ok || !sameCircle(rest, circle(c.c.Length, c.c.Speed, c.starts...)) {
			t.Errorf("RemoveCabin(%v, %d) = %v, %v, not %v", c.c, c.cabin, rest, ok, c.starts)
		}
	}
	eachCircle(func(c impl.Circle) {
		for cabin := range c.Starts {
			want := circle(c.Length, c.Speed)
			for i, start := range c.Starts {
				if i != cabin {
					want.Starts = append(want.Starts, start)
				}
			}
			if rest, ok := impl.RemoveCabin(c, cabin); !ok || !sameCircle(rest, want) || !impl.IsCircle(rest) {
				t.Fatalf("RemoveCabin(%v, %d) = %v, %v, not %v", c, cabin, rest, ok, want)
			}
		}
		for _, cabin := range []int{math.MinInt, -1, len(c.Starts), len(c.Starts) + 1, 12, math.MaxInt} {
			if rest, ok := impl.RemoveCabin(c, cabin); ok || !sameCircle(rest, impl.Circle{}) {
				t.Fatalf("RemoveCabin(%v, %d) = %v, %v", c, cabin, rest, ok)
			}
		}
	})
}

func TestEvenStartsValues(t *testing.T) {
	cases := []struct {
		length, speed, cabins int
		starts                []int
	}{
		{100, 10, 3, []int{0, 33, 66}}, {100, 10, 1, []int{0}}, {100, 10, 0, []int{}}, {100, 10, 2, []int{0, 50}}, {101, 10, 2, []int{0, 50}}, {11, 1, 11, []int{0, 1, 2, 3, 4, 5, 6, 7, 8, 9, 10}}, {12, 100, 12, []int{0, 1, 2, 3, 4, 5, 6, 7, 8, 9, 10, 11}}, {13, 10, 12, []int{0, 1, 2, 3, 4, 5, 6, 7, 8, 9, 10, 11}},
		{14, 10, 4, []int{0, 3, 7, 10}}, {4000, 100, 7, []int{0, 571, 1142, 1714, 2285, 2857, 3428}}, {10, 1, 10, []int{0, 1, 2, 3, 4, 5, 6, 7, 8, 9}}, {4000, 1, 0, []int{}}, {10, 100, 0, []int{}},
		// Two cabins at the same place, too many cabins or fewer than none, and no ring.
		{11, 10, 12, nil}, {10, 10, 11, nil}, {10, 10, 12, nil}, {100, 10, 13, nil}, {4000, 10, 13, nil}, {100, 10, -1, nil}, {9, 10, 0, nil}, {9, 10, 3, nil}, {4001, 10, 0, nil}, {4001, 10, 3, nil}, {100, 0, 3, nil}, {100, 101, 3, nil}, {100, 0, 0, nil}, {100, 101, 0, nil}, {0, 0, 0, nil}, {-100, 10, 3, nil}, {100, -10, 3, nil},
	}
	for _, c := range cases {
		even, ok := impl.EvenStarts(c.length, c.speed, c.cabins)
		if want := circle(c.length, c.speed, c.starts...); c.starts != nil && (!ok || !sameCircle(even, want)) {
			t.Errorf("EvenStarts(%d, %d, %d) = %v, %v, not %v", c.length, c.speed, c.cabins, even, ok, want)
		}
		if c.starts == nil && (ok || !sameCircle(even, impl.Circle{})) {
			t.Errorf("EvenStarts(%d, %d, %d) = %v, %v", c.length, c.speed, c.cabins, even, ok)
		}
	}
}

// TestEvenStartsOfEveryLength expects that every cabin starts not behind its share of the ring, and
// less than a meter before it, and that no gap is more than a meter greater than another one.
func TestEvenStartsOfEveryLength(t *testing.T) {
	for length := 1; length <= impl.MaxRing+2; length++ {
		for cabins := range impl.MaxOnRing + 2 {
			speed := 1 + length%100
			even, ok := impl.EvenStarts(length, speed, cabins)
			wantOk := 10 <= length && length <= impl.MaxRing && cabins <= impl.MaxOnRing && cabins <= length
			if ok != wantOk || !ok && !sameCircle(even, impl.Circle{}) {
				t.Fatalf("EvenStarts(%d, %d, %d) = %v, %v", length, speed, cabins, even, ok)
			}
			if !ok {
				continue
			}
			if even.Length != length || even.Speed != speed || len(even.Starts) != cabins {
				t.Fatalf("EvenStarts(%d, %d, %d) = %v", length, speed, cabins, even)
			}
			for k, start := range even.Starts {
				if start*cabins > k*length || (start+1)*cabins <= k*length {
					t.Fatalf("EvenStarts(%d, %d, %d) = %v", length, speed, cabins, even)
				}
			}
			if gaps, _ := impl.GapsOf(even); cabins > 0 && slices.Max(gaps)-slices.Min(gaps) > 1 {
				t.Fatalf("EvenStarts(%d, %d, %d) has the gaps %v", length, speed, cabins, gaps)
			}
		}
	}
}

// circleResults returns the results of all functions of the chapter about Circles as text. It fails
// the test if one of them succeeds for an invalid Circle, or returns a result beside false that is
// not zero.
func circleResults(t *testing.T, c impl.Circle, n int, m int) string {
	t.Helper()
	valid := impl.IsCircle(c)
	places, placesOk := impl.PlacesAt(c, n)
	gaps, gapsOk := impl.GapsOf(c)
	smallest, smallestOk := impl.SmallestGap(c)
	passes, passesOk := impl.PassesBy(c, n, m)
	cabin, moment, nextOk := impl.NextPass(c, n, m)
	num, den, roundOk := impl.RoundTime(c)
	added, addedOk := impl.AddCabin(c, n)
	rest, restOk := impl.RemoveCabin(c, n)
	if gapsOk != valid || roundOk != valid || smallestOk != (valid && len(c.Starts) > 0) || !valid && (placesOk || passesOk || nextOk || addedOk || restOk) {
		t.Fatalf("%.300s, %d, %d: valid is %v, and a function returns something else", fmt.Sprint(c), n, m, valid)
	}
	if !placesOk && len(places) != 0 || !gapsOk && len(gaps) != 0 || !smallestOk && smallest != 0 || !passesOk && passes != 0 || !nextOk && cabin|moment != 0 || !roundOk && num|den != 0 {
		t.Fatalf("%.300s, %d, %d: a result beside false is not zero", fmt.Sprint(c), n, m)
	}
	if addedOk && !impl.IsCircle(added) || restOk && !impl.IsCircle(rest) || !addedOk && !sameCircle(added, impl.Circle{}) || !restOk && !sameCircle(rest, impl.Circle{}) {
		t.Fatalf("%.300s, %d, %d: a Circle is not as it must be: %v, %v", fmt.Sprint(c), n, m, added, rest)
	}
	return fmt.Sprint(valid, places, placesOk, gaps, gapsOk, smallest, smallestOk, passes, passesOk, cabin, moment, nextOk, num, den, roundOk, added, addedOk, rest, restOk)
}

// TestCirclesReturnForAllArguments gives valid and invalid arguments to every function of the
// chapter, with Starts as parts of longer lists, and expects that nothing in these lists changes,
// that what stands behind them does not count, and that a second call returns the same.
func TestCirclesReturnForAllArguments(t *testing.T) {
	tried := append(extremes(), 0, 1, 2, 9, 11, 12, 13, 99, 100, 4000, 4001, 100000, 100001)
	check := func(c impl.Circle, n, m int) {
		memory := append(slices.Clone(c.Starts), 0, 50, math.MinInt)
		before := slices.Clone(memory)
		first := circleResults(t, copyOf(c), n, m)
		if second := circleResults(t, circle(c.Length, c.Speed, memory[:len(c.Starts)]...), n, m); second != first {
			t.Fatalf("%.300s and then %.300s", first, second)
		}
		if !slices.Equal(memory, before) {
			t.Fatalf("the argument %.300s is changed", fmt.Sprint(c))
		}
	}
	for seed := range 500 {
		c := circleOf(seed)
		for i, n := range tried {
			check(c, n, tried[(i+seed)%len(tried)])
			check(c, seed%c.Length, n)
		}
	}
	for _, c := range append(invalidCircles(), exampleCircle(), fullCircle(), mostOnRing()) {
		for _, n := range tried {
			check(c, n, 0)
			check(c, 0, n)
			check(c, n, n)
		}
	}
	for _, n := range extremes() {
		for _, m := range append(extremes(), 0, 3, 10, 100) {
			for _, k := range append(extremes(), 0, 3, 12, 13) {
				if even, ok := impl.EvenStarts(n, m, k); ok || !sameCircle(even, impl.Circle{}) {
					t.Errorf("EvenStarts(%d, %d, %d) = %v, %v", n, m, k, even, ok)
				}
				if even, ok := impl.EvenStarts(m, n, k); ok || !sameCircle(even, impl.Circle{}) {
					t.Errorf("EvenStarts(%d, %d, %d) = %v, %v", m, n, k, even, ok)
				}
				if even, ok := impl.EvenStarts(100, 10, n); ok || !sameCircle(even, impl.Circle{}) {
					t.Errorf("EvenStarts(100, 10, %d) = %v, %v", n, even, ok)
				}
			}
		}
	}
}

// TestCirclesReturnNewMemory changes the results, and behind their length, and expects that neither
// the argument nor a later result changes with them.
func TestCirclesReturnNewMemory(t *testing.T) {
	memory := []int{0, 40, 70, 80, 99}
	before := slices.Clone(memory)
	places := func(c impl.Circle) ([]int, bool) { return impl.PlacesAt(c, 0) }
	add := func(c impl.Circle) ([]int, bool) { d, ok := impl.AddCabin(c, 1); return d.Starts, ok }
	removeFirst := func(c impl.Circle) ([]int, bool) { d, ok := impl.RemoveCabin(c, 0); return d.Starts, ok }
	removeLast := func(c impl.Circle) ([]int, bool) { d, ok := impl.RemoveCabin(c, len(c.Starts)-1); return d.Starts, ok }
	even := func(c impl.Circle) ([]int, bool) {
		d, ok := impl.EvenStarts(100, 10, len(c.Starts))
		return d.Starts, ok
	}
	for count := 1; count <= len(memory); count++ {
		c := circle(100, 10, memory[:count]...)
		for i, f := range []func(impl.Circle) ([]int, bool){places, impl.GapsOf, add, removeFirst, removeLast, even} {
			one, ok := f(c)
			two, _ := f(c)
			kept := slices.Clone(two)
			if !ok || !slices.Equal(one, two) {
				t.Fatalf("%v: %v, %v and then %v", c, one, ok, two)
			}
			clear(append(one, 77, 78))
			clear(one[:cap(one)])
			if three, _ := f(c); !slices.Equal(memory, before) || !slices.Equal(two, kept) || !slices.Equal(three, kept) {
				t.Errorf("a result of the function %d of %v shares memory", i, c)
			}
		}
	}
}
